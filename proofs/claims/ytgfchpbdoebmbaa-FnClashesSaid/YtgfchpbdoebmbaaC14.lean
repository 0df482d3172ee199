import Derived.Test.YtgfchpbdoebmbaaC13
import Derived.Test.YtgfchpbdoebmbaaC10
namespace Go.Proofs.Ytgfchpbdoebmbaa
open Go.RowKit
set_option linter.unusedVariables false
set_option linter.unusedSimpArgs false

theorem sEf.k {e : Ef} (h : sEf e) : kEf e := by obtain ⟨q0, q1, q2, q3, q4, q5, q6, q7⟩ := h; exact ⟨by omega, by omega, by omega, by omega, by omega, by omega, by omega, by omega⟩
theorem clB_reads (V U : Ef) (h1 : V.l1 = []) (h2 : U.l1 = []) (h3 : V.l4 = []) (h4 : U.l4 = []) (h5 : V.l5 = []) (h6 : U.l5 = []) : clB V U = [] := by
  unfold clB
  rw [h1, h2, h3, h4, h5, h6, hts_none, hts_none, hts_none]
  rfl
theorem stB_at {V U : Ef} {n : Int} (h : 0 ≤ n ∧ n ≤ 12) : stB V U n = clB V U ++ ofSort 4 (cmB V U n) := if_pos h
theorem sort_at {k : Int} {L : List Int} {j : Nat} {p : Int × Int} (h : (ofSort k L)[j]? = some p) : p.1 = k := by
  unfold ofSort at h
  rw [List.getElem?_map] at h
  cases hj : L[j]? with
  | none => rw [hj] at h; simp at h
  | some a => rw [hj] at h; simp at h; rw [← h]
set_option maxRecDepth 100000 in
set_option maxHeartbeats 16000000 in
theorem fnClashes_any (sl : Option Addr) (len cap : Nat) (w : World) (hC : Code w sl len) :
    Calls Try.prog 6 #[.slice sl len cap] w fun e w' => e = .returned (.bool true) ∧ Below w.heap.size w w' := by
  go_enter Try.func6, Try.ntmps6
  go_wp2_with fail
  refine (big_any sl len cap _).mono ?_
  rintro e w9 ⟨rfl, hw9⟩
  rw [hw9]
  clear hw9 w9
  by_cases hbig : 1048576 < (len : Int)
  · have hd : decide (1048576 < (len : Int)) = true := by simp; omega
    go_wp2_with fail
    go_ret
    exact ⟨rfl, Below.refl _ _⟩
  have hd : decide (1048576 < (len : Int)) = false := by simp; omega
  go_wp2_with fail
  refine (drawStrictly_any sl len cap _ (by omega) hC).mono ?_
  rintro e w1 ⟨⟨p0, p1, p2, p3, p4, p5, p6, p7, n0, n1, n2, n3, n4, n5, n6, n7, A, r0, r1, r2, r3, r4, r5, r6, r7, m0, m1, m2, m3, m4, m5, m6, m7, Bf, n, rfl, hA, hB, sA, sB, cA, cB⟩, hb1⟩
  obtain ⟨k0, k1, Lx⟩ := blkTwoE w1 #[.slice p0 A.l0.length n0, .slice p1 A.l1.length n1, .slice p2 A.l2.length n2, .slice p3 A.l3.length n3, .slice p4 A.l4.length n4, .slice p5 A.l5.length n5, .slice p6 A.l6.length n6, .slice p7 A.l7.length n7, .bool A.sp, .bool A.kl] #[.slice r0 Bf.l0.length m0, .slice r1 Bf.l1.length m1, .slice r2 Bf.l2.length m2, .slice r3 Bf.l3.length m3, .slice r4 Bf.l4.length m4, .slice r5 Bf.l5.length m5, .slice r6 Bf.l6.length m6, .slice r7 Bf.l7.length m7, .bool Bf.sp, .bool Bf.kl] 28 28
  have IA := Hid.mk' (hA.later Lx)
  have IB := Hid.mk' (hB.later Lx)
  have LL := Hid.mk' (bl_trans hb1 Lx)
  have KFA := Hid.mk' sA.k
  have KFB := Hid.mk' sB.k
  have CA := Hid.mk' cA
  have CB := Hid.mk' cB
  clear hA hB sA sB hb1 Lx hd hbig hC cA cB
  obtain ⟨x0, x1, x2, x3, x4, x5, x6, x7, x8, x9, xf⟩ := k0.ten
  obtain ⟨y0, y1, y2, y3, y4, y5, y6, y7, y8, y9, yf⟩ := k1.ten
  go_wp2_with fail
  generalize (w1.alloc (.cells #[.slice p0 A.l0.length n0, .slice p1 A.l1.length n1, .slice p2 A.l2.length n2, .slice p3 A.l3.length n3, .slice p4 A.l4.length n4, .slice p5 A.l5.length n5, .slice p6 A.l6.length n6, .slice p7 A.l7.length n7, .bool A.sp, .bool A.kl] 28)).alloc (.cells #[.slice r0 Bf.l0.length m0, .slice r1 Bf.l1.length m1, .slice r2 Bf.l2.length m2, .slice r3 Bf.l3.length m3, .slice r4 Bf.l4.length m4, .slice r5 Bf.l5.length m5, .slice r6 Bf.l6.length m6, .slice r7 Bf.l7.length m7, .bool Bf.sp, .bool Bf.kl] 28) = W0 at k0 k1 IA IB LL x0 x1 x2 x3 x4 x5 x6 x7 x8 x9 xf y0 y1 y2 y3 y4 y5 y6 y7 y8 y9 yf ⊢
  have KA := Hid.mk' k0
  have KB := Hid.mk' k1
  clear k0 k1
  obtain ⟨G, hG⟩ : ∃ G, Hid (clB A Bf = G) := ⟨_, rfl⟩
  have hG2 : Hid (clB Bf A = G) := by show _ = _; rw [clB_turn]; exact hG.out
  have lG : G.length ≤ 20000000 := by rw [← hG.out]; exact clB_len A Bf KFA.out KFB.out
  obtain ⟨b0, hb0⟩ : ∃ b, Hid (decide (G = []) = b) := ⟨_, rfl⟩
  have ld : ((G.length : Int) == 0) = b0 := by
    rw [← hb0.out]
    cases G with
    | nil => rfl
    | cons p l => simp; omega
  have lb : (b0 != b0) = false := by simp
  have lg : ((G.length : Int) != (G.length : Int)) = false := by simp
  refine (implClashes_any p0 p1 p2 p3 p4 p5 p6 p7 n0 n1 n2 n3 n4 n5 n6 n7 A r0 r1 r2 r3 r4 r5 r6 r7 m0 m1 m2 m3 m4 m5 m6 m7 Bf 0 0 _ (IA.out.later (Below.refl _ _)) (IB.out.later (Below.refl _ _)) KFA.out KFB.out).mono ?_
  rintro e v1 ⟨⟨sx, cx, rfl, kx⟩, hb1⟩
  rw [hG.out] at kx ⊢
  have HX := Hid.mk' kx
  have B1 := Hid.mk' hb1
  clear x0 x1 x2 x3 x4 x5 x6 x7 x8 x9 xf y0 y1 y2 y3 y4 y5 y6 y7 y8 y9 yf kx
  obtain ⟨x0, x1, x2, x3, x4, x5, x6, x7, x8, x9, xf⟩ := (KA.out.later hb1).ten
  obtain ⟨y0, y1, y2, y3, y4, y5, y6, y7, y8, y9, yf⟩ := (KB.out.later hb1).ten
  clear hb1
  go_wp2_with fail
  refine (implClashes_any r0 r1 r2 r3 r4 r5 r6 r7 m0 m1 m2 m3 m4 m5 m6 m7 Bf p0 p1 p2 p3 p4 p5 p6 p7 n0 n1 n2 n3 n4 n5 n6 n7 A 0 0 _ (IB.out.later B1.out) (IA.out.later B1.out) KFB.out KFA.out).mono ?_
  rintro e v2 ⟨⟨sy, cy, rfl, ky⟩, hb2⟩
  rw [hG2.out] at ky ⊢
  have HY := Hid.mk' ky
  have HX2 := Hid.mk' (HX.out.later hb2)
  have B2 := Hid.mk' (bl_trans B1.out hb2)
  clear x0 x1 x2 x3 x4 x5 x6 x7 x8 x9 xf y0 y1 y2 y3 y4 y5 y6 y7 y8 y9 yf ky hb2 HX B1
  obtain ⟨x0, x1, x2, x3, x4, x5, x6, x7, x8, x9, xf⟩ := (KA.out.later B2.out).ten
  obtain ⟨y0, y1, y2, y3, y4, y5, y6, y7, y8, y9, yf⟩ := (KB.out.later B2.out).ten
  go_wp2_with fail
  refine (specClashes_any p0 p1 p2 p3 p4 p5 p6 p7 n0 n1 n2 n3 n4 n5 n6 n7 A r0 r1 r2 r3 r4 r5 r6 r7 m0 m1 m2 m3 m4 m5 m6 m7 Bf 0 0 _ (IA.out.later B2.out) (IB.out.later B2.out) KFA.out KFB.out CA.out CB.out).mono ?_
  rintro e v3 ⟨⟨s3, c3, rfl, k3⟩, hb3⟩
  rw [hG.out]
  have HY3 := Hid.mk' (HY.out.later hb3)
  have HX3 := Hid.mk' (HX2.out.later hb3)
  have B3 := Hid.mk' (bl_trans B2.out hb3)
  clear x0 x1 x2 x3 x4 x5 x6 x7 x8 x9 xf y0 y1 y2 y3 y4 y5 y6 y7 y8 y9 yf k3 hb3 HX2 HY B2
  obtain ⟨x0, x1, x2, x3, x4, x5, x6, x7, x8, x9, xf⟩ := (KA.out.later B3.out).ten
  obtain ⟨y0, y1, y2, y3, y4, y5, y6, y7, y8, y9, yf⟩ := (KB.out.later B3.out).ten
  go_wp2_with fail
  refine (implApart_any p0 p1 p2 p3 p4 p5 p6 p7 n0 n1 n2 n3 n4 n5 n6 n7 A r0 r1 r2 r3 r4 r5 r6 r7 m0 m1 m2 m3 m4 m5 m6 m7 Bf 0 0 _ (IA.out.later B3.out) (IB.out.later B3.out) KFA.out KFB.out).mono ?_
  rintro e v4 ⟨rfl, hb4⟩
  rw [hG.out, hb0.out]
  have HY4 := Hid.mk' (HY3.out.later hb4)
  have HX4 := Hid.mk' (HX3.out.later hb4)
  have B4 := Hid.mk' (bl_trans B3.out hb4)
  clear x0 x1 x2 x3 x4 x5 x6 x7 x8 x9 xf y0 y1 y2 y3 y4 y5 y6 y7 y8 y9 yf hb4 HX3 HY3 B3
  go_wp2_with fail
  go_loopw [8] (fun iv wr => ∃ i : Nat, i ≤ G.length ∧ iv = .int .i64 i ∧ Hid (Below v4.heap.size v4 wr)) (fun iv _ => G.length - (intOf iv).toNat)
  case atStart => exact ⟨0, Nat.zero_le _, rfl, Below.refl _ _⟩
  case round =>
    obtain ⟨i, hi, rfl, hb⟩ := hrel
    by_cases hlt : i < G.length
    · obtain ⟨g1, z1, hv1, hc1⟩ := HX4.out.list.get hlt
      obtain ⟨g2, z2, hv2, hc2⟩ := HY4.out.list.get hlt
      simp only [Value.slice.injEq, true_and] at hv1 hv2
      obtain ⟨rfl, rfl⟩ := hv1
      obtain ⟨rfl, rfl⟩ := hv2
      obtain ⟨e1, e2⟩ := hc1 wr hb.out
      obtain ⟨f1, f2⟩ := hc2 wr hb.out
      obtain ⟨⟨x, y⟩, hx⟩ : ∃ x, Hid (G[i]?.getD (0, 0) = x) := ⟨_, rfl⟩
      rw [hx.out] at e1 e2 f1 f2
      have hkI : (i : Int) < (G.length : Int) := by omega
      have hxx : (x != x) = false := by simp
      have hyy : (y != y) = false := by simp
      clear hc1 hc2
      go_wp2_with fail
      go_quiet (fail)
      go_wp2_with fail
      go_roundw
      case rel => exact ⟨i + 1, by omega, by go_num, bl_drewN hb.out _⟩
      case measure => simp [intOf]; omega
    · have B5 := Hid.mk' (bl_trans B4.out hb.out)
      have HX5 := Hid.mk' (HX4.out.later hb.out)
      clear hb HY4 HX4 B4
      obtain ⟨x0, x1, x2, x3, x4, x5, x6, x7, x8, x9, xf⟩ := (KA.out.later B5.out).ten
      obtain ⟨y0, y1, y2, y3, y4, y5, y6, y7, y8, y9, yf⟩ := (KB.out.later B5.out).ten
      obtain ⟨Z, hZ⟩ : ∃ Z, Hid (stB A Bf n = Z) := ⟨_, rfl⟩
      have hZ2 : Hid (stB Bf A n = Z) := by show _ = _; rw [stB_turn]; exact hZ.out
      have lZ : Z.length ≤ 30000000 := by rw [← hZ.out]; exact stB_len A Bf n KFA.out KFB.out
      go_wp2_with fail
      refine (implStrictly_any p0 p1 p2 p3 p4 p5 p6 p7 n0 n1 n2 n3 n4 n5 n6 n7 A r0 r1 r2 r3 r4 r5 r6 r7 m0 m1 m2 m3 m4 m5 m6 m7 Bf n 0 0 _ (IA.out.later B5.out) (IB.out.later B5.out) KFA.out KFB.out).mono ?_
      rintro e v6 ⟨⟨sz, cz, rfl, kz⟩, hb6⟩
      rw [hZ.out] at kz ⊢
      have HZ6 := Hid.mk' kz
      have HX6 := Hid.mk' (HX5.out.later hb6)
      have B6 := Hid.mk' (bl_trans B5.out hb6)
      clear x0 x1 x2 x3 x4 x5 x6 x7 x8 x9 xf y0 y1 y2 y3 y4 y5 y6 y7 y8 y9 yf kz hb6 HX5 B5
      obtain ⟨x0, x1, x2, x3, x4, x5, x6, x7, x8, x9, xf⟩ := (KA.out.later B6.out).ten
      obtain ⟨y0, y1, y2, y3, y4, y5, y6, y7, y8, y9, yf⟩ := (KB.out.later B6.out).ten
      go_wp2_with fail
      refine (implStrictly_any r0 r1 r2 r3 r4 r5 r6 r7 m0 m1 m2 m3 m4 m5 m6 m7 Bf p0 p1 p2 p3 p4 p5 p6 p7 n0 n1 n2 n3 n4 n5 n6 n7 A n 0 0 _ (IB.out.later B6.out) (IA.out.later B6.out) KFB.out KFA.out).mono ?_
      rintro e v7 ⟨⟨su, cu, rfl, ku⟩, hb7⟩
      rw [hZ2.out] at ku ⊢
      have HU7 := Hid.mk' ku
      have HZ7 := Hid.mk' (HZ6.out.later hb7)
      have HX7 := Hid.mk' (HX6.out.later hb7)
      have B7 := Hid.mk' (bl_trans B6.out hb7)
      clear x0 x1 x2 x3 x4 x5 x6 x7 x8 x9 xf y0 y1 y2 y3 y4 y5 y6 y7 y8 y9 yf ku hb7 HX6 HZ6 B6
      by_cases hn : ¬ (0 ≤ n ∧ n ≤ 12)
      · have z0 : Z.length = 0 := by rw [← hZ.out]; unfold stB; rw [if_neg hn]; rfl
        have zz : ((Z.length : Int) == 0) = true := by rw [z0]; rfl
        have L9 := Hid.mk' (bl_trans LL.out B7.out)
        clear z0
        have dd : decide (n < 0) = true ∨ (decide (n < 0) = false ∧ decide (n > 12) = true) := by
          by_cases h0 : n < 0
          · exact Or.inl (decide_eq_true h0)
          · exact Or.inr ⟨decide_eq_false h0, decide_eq_true (by omega)⟩
        clear hn
        rcases dd with d1 | ⟨d1, d2⟩
        · go_wp2_with fail
          go_ret
          exact ⟨rfl, L9.out⟩
        · go_wp2_with fail
          go_ret
          exact ⟨rfl, L9.out⟩
      replace hn := Decidable.not_not.1 hn
      have hS : Hid (Z = G ++ ofSort 4 (cmB A Bf n)) := by show _ = _; rw [← hZ.out, stB_at hn, hG.out]
      have lz : decide ((Z.length : Int) < (G.length : Int)) = false := by rw [decide_eq_false_iff_not, hS.out, List.length_append]; omega
      have lzn : ¬ Z.length < G.length := by rw [hS.out, List.length_append]; omega
      have lzd : decide (Z.length < G.length) = false := decide_eq_false lzn
      have lu : ((Z.length : Int) != (Z.length : Int)) = false := by simp
      have d1 : decide (n < 0) = false := decide_eq_false (by omega)
      have d2 : decide (n > 12) = false := decide_eq_false (by omega)
      go_wp2_with fail
      clear d1 d2 lz lzn lzd lu ld lb lg
      go_loopw [11] (fun iv wr => ∃ i : Nat, i ≤ Z.length ∧ iv = .int .i64 i ∧ Hid (Below v7.heap.size v7 wr)) (fun iv _ => Z.length - (intOf iv).toNat)
      case atStart => exact ⟨0, Nat.zero_le _, rfl, Below.refl _ _⟩
      case round =>
        obtain ⟨j, hj, rfl, hb⟩ := hrel
        by_cases hjl : j < Z.length
        · obtain ⟨g1, z1, hv1, hc1⟩ := HZ7.out.list.get hjl
          obtain ⟨g2, z2, hv2, hc2⟩ := HU7.out.list.get hjl
          simp only [Value.slice.injEq, true_and] at hv1 hv2
          obtain ⟨rfl, rfl⟩ := hv1
          obtain ⟨rfl, rfl⟩ := hv2
          obtain ⟨e1, e2⟩ := hc1 wr hb.out
          obtain ⟨f1, f2⟩ := hc2 wr hb.out
          obtain ⟨⟨x, y⟩, hx⟩ : ∃ x, Hid (Z[j]?.getD (0, 0) = x) := ⟨_, rfl⟩
          rw [hx.out] at e1 e2 f1 f2
          have hkI : (j : Int) < (Z.length : Int) := by omega
          have hxx : (x != x) = false := by simp
          have hyy : (y != y) = false := by simp
          clear hc1 hc2
          by_cases hjg : j < G.length
          · obtain ⟨g3, z3, hv3, hc3⟩ := HX7.out.list.get hjg
            simp only [Value.slice.injEq, true_and] at hv3
            obtain ⟨rfl, rfl⟩ := hv3
            obtain ⟨h1, h2⟩ := hc3 wr hb.out
            have hgx : Hid (G[j]?.getD (0, 0) = (x, y)) := by
              show _ = _
              rw [← hx.out, hS.out, List.getElem?_append_left hjg]
            rw [hgx.out] at h1 h2
            have t1 : decide ((j : Int) < (G.length : Int)) = true := decide_eq_true (by omega)
            have t2 : decide ((j : Int) ≥ (G.length : Int)) = false := decide_eq_false (by omega)
            have hjI : (j : Int) < (G.length : Int) := by omega
            have t3 : decide (j < G.length) = true := decide_eq_true hjg
            have t4 : decide (G.length ≤ j) = false := decide_eq_false (by omega)
            have t5 : decide (j ≥ G.length) = false := decide_eq_false (by omega)
            clear hc3 hgx
            go_wp2_with fail
            refine wp_region_held_drew (S := (fun w' => w'.cell? ⟨g1, j * 2, none⟩ = some (.int .i64 x) ∧ w'.cell? ⟨g1, j * 2 + 1, none⟩ = some (.int .i64 y) ∧ w'.cell? ⟨g2, j * 2, none⟩ = some (.int .i64 x) ∧ w'.cell? ⟨g2, j * 2 + 1, none⟩ = some (.int .i64 y) ∧ w'.cell? ⟨g3, j * 2, none⟩ = some (.int .i64 x) ∧ w'.cell? ⟨g3, j * 2 + 1, none⟩ = some (.int .i64 y))) (by kernel_rfl) ?_ (fun hHeld => ?_)
            · exact ⟨e1, e2, f1, f2, h1, h2⟩
            refine wpAnyH_one (i := 0) (d := 105) (v := ?_) rfl rfl (by kernel_rfl) (by kernel_rfl) (by kernel_rfl) (fun _ _ _ h => h) (by rfl) (by assumption) ?_ ?_
            rotate_left 1
            · intro w hSw; (try dsimp only at hSw); go_simp <;> with_reducible rfl
            simp only [List.foldl, Act.put, List.setIfInBounds_toArray, List.set_cons_zero, List.set_cons_succ]
            refine wpAnyH_one (i := 1) (d := 106) (v := ?_) rfl rfl (by kernel_rfl) (by kernel_rfl) (by kernel_rfl) (fun _ _ _ h => h) (by rfl) (by assumption) ?_ ?_
            rotate_left 1
            · intro w hSw; (try dsimp only at hSw); go_simp <;> with_reducible rfl
            simp only [List.foldl, Act.put, List.setIfInBounds_toArray, List.set_cons_zero, List.set_cons_succ]
            refine wpAnyH_one (i := 2) (d := 107) (v := ?_) rfl rfl (by kernel_rfl) (by kernel_rfl) (by kernel_rfl) (fun _ _ _ h => h) (by rfl) (by assumption) ?_ ?_
            rotate_left 1
            · intro w hSw; (try dsimp only at hSw); go_simp <;> with_reducible rfl
            simp only [List.foldl, Act.put, List.setIfInBounds_toArray, List.set_cons_zero, List.set_cons_succ]
            refine wpAnyH_one (i := 3) (d := 108) (v := ?_) rfl rfl (by kernel_rfl) (by kernel_rfl) (by kernel_rfl) (fun _ _ _ h => h) (by rfl) (by assumption) ?_ ?_
            rotate_left 1
            · intro w hSw; (try dsimp only at hSw); go_simp <;> with_reducible rfl
            simp only [List.foldl, Act.put, List.setIfInBounds_toArray, List.set_cons_zero, List.set_cons_succ]
            refine wpAnyH_one (i := 4) (d := 109) (v := ?_) rfl rfl (by kernel_rfl) (by kernel_rfl) (by kernel_rfl) (fun _ _ _ h => h) (by rfl) (by assumption) ?_ ?_
            rotate_left 1
            · intro w hSw; (try dsimp only at hSw); go_simp <;> with_reducible rfl
            simp only [List.foldl, Act.put, List.setIfInBounds_toArray, List.set_cons_zero, List.set_cons_succ]
            refine wpAnyH_one (i := 5) (d := 110) (v := ?_) rfl rfl (by kernel_rfl) (by kernel_rfl) (by kernel_rfl) (fun _ _ _ h => h) (by rfl) (by assumption) ?_ ?_
            rotate_left 1
            · intro w hSw; (try dsimp only at hSw); go_simp <;> with_reducible rfl
            simp only [List.foldl, Act.put, List.setIfInBounds_toArray, List.set_cons_zero, List.set_cons_succ]
            refine wpAnyH_one (i := 6) (d := 111) (v := ?_) rfl rfl (by kernel_rfl) (by kernel_rfl) (by kernel_rfl) (fun _ _ _ h => h) (by rfl) (by assumption) ?_ ?_
            rotate_left 1
            · intro w hSw; (try dsimp only at hSw); go_simp <;> with_reducible rfl
            simp only [List.foldl, Act.put, List.setIfInBounds_toArray, List.set_cons_zero, List.set_cons_succ]
            refine wpAnyH_one (i := 7) (d := 112) (v := ?_) rfl rfl (by kernel_rfl) (by kernel_rfl) (by kernel_rfl) (fun _ _ _ h => h) (by rfl) (by assumption) ?_ ?_
            rotate_left 1
            · intro w hSw; (try dsimp only at hSw); go_simp <;> with_reducible rfl
            simp only [List.foldl, Act.put, List.setIfInBounds_toArray, List.set_cons_zero, List.set_cons_succ]
            refine wpAnyH_one (i := 8) (d := 113) (v := ?_) rfl rfl (by kernel_rfl) (by kernel_rfl) (by kernel_rfl) (fun _ _ _ h => h) (by rfl) (by assumption) ?_ ?_
            rotate_left 1
            · intro w hSw; (try dsimp only at hSw); go_simp <;> with_reducible rfl
            simp only [List.foldl, Act.put, List.setIfInBounds_toArray, List.set_cons_zero, List.set_cons_succ]
            refine wpAnyH_one (i := 9) (d := 114) (v := ?_) rfl rfl (by kernel_rfl) (by kernel_rfl) (by kernel_rfl) (fun _ _ _ h => h) (by rfl) (by assumption) ?_ ?_
            rotate_left 1
            · intro w hSw; (try dsimp only at hSw); go_simp <;> with_reducible rfl
            simp only [List.foldl, Act.put, List.setIfInBounds_toArray, List.set_cons_zero, List.set_cons_succ]
            refine wpAnyH_one (i := 10) (d := 115) (v := ?_) rfl rfl (by kernel_rfl) (by kernel_rfl) (by kernel_rfl) (fun _ _ _ h => h) (by rfl) (by assumption) ?_ ?_
            rotate_left 1
            · intro w hSw; (try dsimp only at hSw); go_simp <;> with_reducible rfl
            simp only [List.foldl, Act.put, List.setIfInBounds_toArray, List.set_cons_zero, List.set_cons_succ]
            refine wpAnyH_one (i := 11) (d := 116) (v := ?_) rfl rfl (by kernel_rfl) (by kernel_rfl) (by kernel_rfl) (fun _ _ _ h => h) (by rfl) (by assumption) ?_ ?_
            rotate_left 1
            · intro w hSw; (try dsimp only at hSw); go_simp <;> with_reducible rfl
            simp only [List.foldl, Act.put, List.setIfInBounds_toArray, List.set_cons_zero, List.set_cons_succ]
            refine wpAnyH_one (i := 12) (d := 117) (v := ?_) rfl rfl (by kernel_rfl) (by kernel_rfl) (by kernel_rfl) (fun _ _ _ h => h) (by rfl) (by assumption) ?_ ?_
            rotate_left 1
            · intro w hSw; (try dsimp only at hSw); go_simp <;> with_reducible rfl
            simp only [List.foldl, Act.put, List.setIfInBounds_toArray, List.set_cons_zero, List.set_cons_succ]
            refine wpAnyH_one (i := 13) (d := 118) (v := ?_) rfl rfl (by kernel_rfl) (by kernel_rfl) (by kernel_rfl) (fun _ _ _ h => h) (by rfl) (by assumption) ?_ ?_
            rotate_left 1
            · intro w hSw; (try dsimp only at hSw); go_simp <;> with_reducible rfl
            simp only [List.foldl, Act.put, List.setIfInBounds_toArray, List.set_cons_zero, List.set_cons_succ]
            refine wpAnyH_one (i := 14) (d := 119) (v := ?_) rfl rfl (by kernel_rfl) (by kernel_rfl) (by kernel_rfl) (fun _ _ _ h => h) (by rfl) (by assumption) ?_ ?_
            rotate_left 1
            · intro w hSw; (try dsimp only at hSw); go_simp <;> with_reducible rfl
            simp only [List.foldl, Act.put, List.setIfInBounds_toArray, List.set_cons_zero, List.set_cons_succ]
            refine wpAnyH_one (i := 15) (d := 120) (v := ?_) rfl rfl (by kernel_rfl) (by kernel_rfl) (by kernel_rfl) (fun _ _ _ h => h) (by rfl) (by assumption) ?_ ?_
            rotate_left 1
            · intro w hSw; (try dsimp only at hSw); go_simp <;> with_reducible rfl
            simp only [List.foldl, Act.put, List.setIfInBounds_toArray, List.set_cons_zero, List.set_cons_succ]
            refine wpAnyH_one (i := 16) (d := 121) (v := ?_) rfl rfl (by kernel_rfl) (by kernel_rfl) (by kernel_rfl) (fun _ _ _ h => h) (by rfl) (by assumption) ?_ ?_
            rotate_left 1
            · intro w hSw; (try dsimp only at hSw); go_simp <;> with_reducible rfl
            simp only [List.foldl, Act.put, List.setIfInBounds_toArray, List.set_cons_zero, List.set_cons_succ]
            refine wpAnyH_one (i := 17) (d := 122) (v := ?_) rfl rfl (by kernel_rfl) (by kernel_rfl) (by kernel_rfl) (fun _ _ _ h => h) (by rfl) (by assumption) ?_ ?_
            rotate_left 1
            · intro w hSw; (try dsimp only at hSw); go_simp <;> with_reducible rfl
            simp only [List.foldl, Act.put, List.setIfInBounds_toArray, List.set_cons_zero, List.set_cons_succ]
            refine wpAnyH_one (i := 18) (d := 123) (v := ?_) rfl rfl (by kernel_rfl) (by kernel_rfl) (by kernel_rfl) (fun _ _ _ h => h) (by rfl) (by assumption) ?_ ?_
            rotate_left 1
            · intro w hSw; (try dsimp only at hSw); go_simp <;> with_reducible rfl
            simp only [List.foldl, Act.put, List.setIfInBounds_toArray, List.set_cons_zero, List.set_cons_succ]
            refine wpAnyH_one (i := 19) (d := 124) (v := ?_) rfl rfl (by kernel_rfl) (by kernel_rfl) (by kernel_rfl) (fun _ _ _ h => h) (by rfl) (by assumption) ?_ ?_
            rotate_left 1
            · intro w hSw; (try dsimp only at hSw); go_simp <;> with_reducible rfl
            simp only [List.foldl, Act.put, List.setIfInBounds_toArray, List.set_cons_zero, List.set_cons_succ]
            refine wpAnyH_one (i := 20) (d := 125) (v := ?_) rfl rfl (by kernel_rfl) (by kernel_rfl) (by kernel_rfl) (fun _ _ _ h => h) (by rfl) (by assumption) ?_ ?_
            rotate_left 1
            · intro w hSw; (try dsimp only at hSw); go_simp <;> with_reducible rfl
            simp only [List.foldl, Act.put, List.setIfInBounds_toArray, List.set_cons_zero, List.set_cons_succ]
            refine wpAnyH_one (i := 21) (d := 126) (v := ?_) rfl rfl (by kernel_rfl) (by kernel_rfl) (by kernel_rfl) (fun _ _ _ h => h) (by rfl) (by assumption) ?_ ?_
            rotate_left 1
            · intro w hSw; (try dsimp only at hSw); go_simp <;> with_reducible rfl
            simp only [List.foldl, Act.put, List.setIfInBounds_toArray, List.set_cons_zero, List.set_cons_succ]
            refine wpAnyH_one (i := 22) (d := 127) (v := ?_) rfl rfl (by kernel_rfl) (by kernel_rfl) (by kernel_rfl) (fun _ _ _ h => h) (by rfl) (by assumption) ?_ ?_
            rotate_left 1
            · intro w hSw; (try dsimp only at hSw); go_simp <;> with_reducible rfl
            simp only [List.foldl, Act.put, List.setIfInBounds_toArray, List.set_cons_zero, List.set_cons_succ]
            refine wpAnyH_one (i := 23) (d := 128) (v := ?_) rfl rfl (by kernel_rfl) (by kernel_rfl) (by kernel_rfl) (fun _ _ _ h => h) (by rfl) (by assumption) ?_ ?_
            rotate_left 1
            · intro w hSw; (try dsimp only at hSw); go_simp <;> with_reducible rfl
            simp only [List.foldl, Act.put, List.setIfInBounds_toArray, List.set_cons_zero, List.set_cons_succ]
            refine wpAnyH_one (i := 24) (d := 129) (v := ?_) rfl rfl (by kernel_rfl) (by kernel_rfl) (by kernel_rfl) (fun _ _ _ h => h) (by rfl) (by assumption) ?_ ?_
            rotate_left 1
            · intro w hSw; (try dsimp only at hSw); go_simp <;> with_reducible rfl
            simp only [List.foldl, Act.put, List.setIfInBounds_toArray, List.set_cons_zero, List.set_cons_succ]
            refine wpAnyH_one (i := 25) (d := 130) (v := ?_) rfl rfl (by kernel_rfl) (by kernel_rfl) (by kernel_rfl) (fun _ _ _ h => h) (by rfl) (by assumption) ?_ ?_
            rotate_left 1
            · intro w hSw; (try dsimp only at hSw); go_simp <;> with_reducible rfl
            simp only [List.foldl, Act.put, List.setIfInBounds_toArray, List.set_cons_zero, List.set_cons_succ]
            refine wpAnyH_one (i := 26) (d := 131) (v := ?_) rfl rfl (by kernel_rfl) (by kernel_rfl) (by kernel_rfl) (fun _ _ _ h => h) (by rfl) (by assumption) ?_ ?_
            rotate_left 1
            · intro w hSw; (try dsimp only at hSw); go_simp <;> with_reducible rfl
            simp only [List.foldl, Act.put, List.setIfInBounds_toArray, List.set_cons_zero, List.set_cons_succ]
            refine wpAnyH_one (i := 27) (d := 132) (v := ?_) rfl rfl (by kernel_rfl) (by kernel_rfl) (by kernel_rfl) (fun _ _ _ h => h) (by rfl) (by assumption) ?_ ?_
            rotate_left 1
            · intro w hSw; (try dsimp only at hSw); go_simp <;> with_reducible rfl
            simp only [List.foldl, Act.put, List.setIfInBounds_toArray, List.set_cons_zero, List.set_cons_succ]
            refine wpAnyH_one (i := 28) (d := 133) (v := ?_) rfl rfl (by kernel_rfl) (by kernel_rfl) (by kernel_rfl) (fun _ _ _ h => h) (by rfl) (by assumption) ?_ ?_
            rotate_left 1
            · intro w hSw; (try dsimp only at hSw); go_simp <;> with_reducible rfl
            simp only [List.foldl, Act.put, List.setIfInBounds_toArray, List.set_cons_zero, List.set_cons_succ]
            refine wpAnyH_one (i := 29) (d := 134) (v := ?_) rfl rfl (by kernel_rfl) (by kernel_rfl) (by kernel_rfl) (fun _ _ _ h => h) (by rfl) (by assumption) ?_ ?_
            rotate_left 1
            · intro w hSw; (try dsimp only at hSw); go_simp <;> with_reducible rfl
            simp only [List.foldl, Act.put, List.setIfInBounds_toArray, List.set_cons_zero, List.set_cons_succ]
            refine wpAnyH_one (i := 30) (d := 135) (v := ?_) rfl rfl (by kernel_rfl) (by kernel_rfl) (by kernel_rfl) (fun _ _ _ h => h) (by rfl) (by assumption) ?_ ?_
            rotate_left 1
            · intro w hSw; (try dsimp only at hSw); go_simp <;> with_reducible rfl
            simp only [List.foldl, Act.put, List.setIfInBounds_toArray, List.set_cons_zero, List.set_cons_succ]
            refine wpAnyH_one (i := 31) (d := 136) (v := ?_) rfl rfl (by kernel_rfl) (by kernel_rfl) (by kernel_rfl) (fun _ _ _ h => h) (by rfl) (by assumption) ?_ ?_
            rotate_left 1
            · intro w hSw; (try dsimp only at hSw); go_simp <;> with_reducible rfl
            simp only [List.foldl, Act.put, List.setIfInBounds_toArray, List.set_cons_zero, List.set_cons_succ]
            refine wpAnyH_skip (by kernel_rfl) (fun _ _ _ _ h => h) [(32, 137), (33, 138), (34, 139), (35, 140), (36, 141), (37, 142)] 2 _ _ _ (by assumption) (by kernel_rfl) ?_ _ rfl
            simp only [List.foldl, Act.put, List.setIfInBounds_toArray, List.set_cons_zero, List.set_cons_succ]
            refine wpAnyH_one (i := 38) (d := 143) (v := ?_) rfl rfl (by kernel_rfl) (by kernel_rfl) (by kernel_rfl) (fun _ _ _ h => h) (by rfl) (by assumption) ?_ ?_
            rotate_left 1
            · intro w hSw; (try dsimp only at hSw); go_simp <;> with_reducible rfl
            simp only [List.foldl, Act.put, List.setIfInBounds_toArray, List.set_cons_zero, List.set_cons_succ]
            refine wpAnyH_one (i := 39) (d := 144) (v := ?_) rfl rfl (by kernel_rfl) (by kernel_rfl) (by kernel_rfl) (fun _ _ _ h => h) (by rfl) (by assumption) ?_ ?_
            rotate_left 1
            · intro w hSw; (try dsimp only at hSw); go_simp <;> with_reducible rfl
            simp only [List.foldl, Act.put, List.setIfInBounds_toArray, List.set_cons_zero, List.set_cons_succ]
            refine wpAnyH_done (by kernel_rfl) ?_ _
            go_wp2_with fail
            go_roundw
            case rel => exact ⟨j + 1, by omega, by go_num, bl_drew hb.out⟩
            case measure => simp [intOf]; omega
          · have hx4 : x = 4 := by
              have h5 : Z[j]? = some (x, y) := by
                obtain ⟨p, hp⟩ := get_some hjl
                rw [hp] at hx
                rw [hp]
                exact congrArg some hx.out
              rw [hS.out, List.getElem?_append_right (by omega)] at h5
              exact sort_at h5
            subst hx4
            have t1 : decide ((j : Int) < (G.length : Int)) = false := decide_eq_false (by omega)
            have t2 : decide ((j : Int) ≥ (G.length : Int)) = true := decide_eq_true (by omega)
            have t3 : decide (j < G.length) = false := decide_eq_false hjg
            have t4 : decide (G.length ≤ j) = true := decide_eq_true (by omega)
            have t5 : decide (j ≥ G.length) = true := decide_eq_true (by omega)
            go_wp2_with fail
            refine wp_region_held_drew (S := (fun w' => w'.cell? ⟨g1, j * 2, none⟩ = some (.int .i64 4) ∧ w'.cell? ⟨g1, j * 2 + 1, none⟩ = some (.int .i64 y) ∧ w'.cell? ⟨g2, j * 2, none⟩ = some (.int .i64 4) ∧ w'.cell? ⟨g2, j * 2 + 1, none⟩ = some (.int .i64 y))) (by kernel_rfl) ?_ (fun hHeld => ?_)
            · exact ⟨e1, e2, f1, f2⟩
            refine wpAnyH_one (i := 0) (d := 105) (v := ?_) rfl rfl (by kernel_rfl) (by kernel_rfl) (by kernel_rfl) (fun _ _ _ h => h) (by rfl) (by assumption) ?_ ?_
            rotate_left 1
            · intro w hSw; (try dsimp only at hSw); go_simp <;> with_reducible rfl
            simp only [List.foldl, Act.put, List.setIfInBounds_toArray, List.set_cons_zero, List.set_cons_succ]
            refine wpAnyH_one (i := 1) (d := 106) (v := ?_) rfl rfl (by kernel_rfl) (by kernel_rfl) (by kernel_rfl) (fun _ _ _ h => h) (by rfl) (by assumption) ?_ ?_
            rotate_left 1
            · intro w hSw; (try dsimp only at hSw); go_simp <;> with_reducible rfl
            simp only [List.foldl, Act.put, List.setIfInBounds_toArray, List.set_cons_zero, List.set_cons_succ]
            refine wpAnyH_one (i := 2) (d := 107) (v := ?_) rfl rfl (by kernel_rfl) (by kernel_rfl) (by kernel_rfl) (fun _ _ _ h => h) (by rfl) (by assumption) ?_ ?_
            rotate_left 1
            · intro w hSw; (try dsimp only at hSw); go_simp <;> with_reducible rfl
            simp only [List.foldl, Act.put, List.setIfInBounds_toArray, List.set_cons_zero, List.set_cons_succ]
            refine wpAnyH_one (i := 3) (d := 108) (v := ?_) rfl rfl (by kernel_rfl) (by kernel_rfl) (by kernel_rfl) (fun _ _ _ h => h) (by rfl) (by assumption) ?_ ?_
            rotate_left 1
            · intro w hSw; (try dsimp only at hSw); go_simp <;> with_reducible rfl
            simp only [List.foldl, Act.put, List.setIfInBounds_toArray, List.set_cons_zero, List.set_cons_succ]
            refine wpAnyH_one (i := 4) (d := 109) (v := ?_) rfl rfl (by kernel_rfl) (by kernel_rfl) (by kernel_rfl) (fun _ _ _ h => h) (by rfl) (by assumption) ?_ ?_
            rotate_left 1
            · intro w hSw; (try dsimp only at hSw); go_simp <;> with_reducible rfl
            simp only [List.foldl, Act.put, List.setIfInBounds_toArray, List.set_cons_zero, List.set_cons_succ]
            refine wpAnyH_one (i := 5) (d := 110) (v := ?_) rfl rfl (by kernel_rfl) (by kernel_rfl) (by kernel_rfl) (fun _ _ _ h => h) (by rfl) (by assumption) ?_ ?_
            rotate_left 1
            · intro w hSw; (try dsimp only at hSw); go_simp <;> with_reducible rfl
            simp only [List.foldl, Act.put, List.setIfInBounds_toArray, List.set_cons_zero, List.set_cons_succ]
            refine wpAnyH_one (i := 6) (d := 111) (v := ?_) rfl rfl (by kernel_rfl) (by kernel_rfl) (by kernel_rfl) (fun _ _ _ h => h) (by rfl) (by assumption) ?_ ?_
            rotate_left 1
            · intro w hSw; (try dsimp only at hSw); go_simp <;> with_reducible rfl
            simp only [List.foldl, Act.put, List.setIfInBounds_toArray, List.set_cons_zero, List.set_cons_succ]
            refine wpAnyH_one (i := 7) (d := 112) (v := ?_) rfl rfl (by kernel_rfl) (by kernel_rfl) (by kernel_rfl) (fun _ _ _ h => h) (by rfl) (by assumption) ?_ ?_
            rotate_left 1
            · intro w hSw; (try dsimp only at hSw); go_simp <;> with_reducible rfl
            simp only [List.foldl, Act.put, List.setIfInBounds_toArray, List.set_cons_zero, List.set_cons_succ]
            refine wpAnyH_one (i := 8) (d := 113) (v := ?_) rfl rfl (by kernel_rfl) (by kernel_rfl) (by kernel_rfl) (fun _ _ _ h => h) (by rfl) (by assumption) ?_ ?_
            rotate_left 1
            · intro w hSw; (try dsimp only at hSw); go_simp <;> with_reducible rfl
            simp only [List.foldl, Act.put, List.setIfInBounds_toArray, List.set_cons_zero, List.set_cons_succ]
            refine wpAnyH_one (i := 9) (d := 114) (v := ?_) rfl rfl (by kernel_rfl) (by kernel_rfl) (by kernel_rfl) (fun _ _ _ h => h) (by rfl) (by assumption) ?_ ?_
            rotate_left 1
            · intro w hSw; (try dsimp only at hSw); go_simp <;> with_reducible rfl
            simp only [List.foldl, Act.put, List.setIfInBounds_toArray, List.set_cons_zero, List.set_cons_succ]
            refine wpAnyH_one (i := 10) (d := 115) (v := ?_) rfl rfl (by kernel_rfl) (by kernel_rfl) (by kernel_rfl) (fun _ _ _ h => h) (by rfl) (by assumption) ?_ ?_
            rotate_left 1
            · intro w hSw; (try dsimp only at hSw); go_simp <;> with_reducible rfl
            simp only [List.foldl, Act.put, List.setIfInBounds_toArray, List.set_cons_zero, List.set_cons_succ]
            refine wpAnyH_one (i := 11) (d := 116) (v := ?_) rfl rfl (by kernel_rfl) (by kernel_rfl) (by kernel_rfl) (fun _ _ _ h => h) (by rfl) (by assumption) ?_ ?_
            rotate_left 1
            · intro w hSw; (try dsimp only at hSw); go_simp <;> with_reducible rfl
            simp only [List.foldl, Act.put, List.setIfInBounds_toArray, List.set_cons_zero, List.set_cons_succ]
            refine wpAnyH_one (i := 12) (d := 117) (v := ?_) rfl rfl (by kernel_rfl) (by kernel_rfl) (by kernel_rfl) (fun _ _ _ h => h) (by rfl) (by assumption) ?_ ?_
            rotate_left 1
            · intro w hSw; (try dsimp only at hSw); go_simp <;> with_reducible rfl
            simp only [List.foldl, Act.put, List.setIfInBounds_toArray, List.set_cons_zero, List.set_cons_succ]
            refine wpAnyH_one (i := 13) (d := 118) (v := ?_) rfl rfl (by kernel_rfl) (by kernel_rfl) (by kernel_rfl) (fun _ _ _ h => h) (by rfl) (by assumption) ?_ ?_
            rotate_left 1
            · intro w hSw; (try dsimp only at hSw); go_simp <;> with_reducible rfl
            simp only [List.foldl, Act.put, List.setIfInBounds_toArray, List.set_cons_zero, List.set_cons_succ]
            refine wpAnyH_one (i := 14) (d := 119) (v := ?_) rfl rfl (by kernel_rfl) (by kernel_rfl) (by kernel_rfl) (fun _ _ _ h => h) (by rfl) (by assumption) ?_ ?_
            rotate_left 1
            · intro w hSw; (try dsimp only at hSw); go_simp <;> with_reducible rfl
            simp only [List.foldl, Act.put, List.setIfInBounds_toArray, List.set_cons_zero, List.set_cons_succ]
            refine wpAnyH_skip (by kernel_rfl) (fun _ _ _ _ h => h) [(15, 120), (16, 121), (17, 122), (18, 123), (19, 124), (20, 125), (21, 126), (22, 127), (23, 128)] 16 _ _ _ (by assumption) (by kernel_rfl) ?_ _ rfl
            simp only [List.foldl, Act.put, List.setIfInBounds_toArray, List.set_cons_zero, List.set_cons_succ]
            refine wpAnyH_one (i := 24) (d := 129) (v := ?_) rfl rfl (by kernel_rfl) (by kernel_rfl) (by kernel_rfl) (fun _ _ _ h => h) (by rfl) (by assumption) ?_ ?_
            rotate_left 1
            · intro w hSw; (try dsimp only at hSw); go_simp <;> with_reducible rfl
            simp only [List.foldl, Act.put, List.setIfInBounds_toArray, List.set_cons_zero, List.set_cons_succ]
            refine wpAnyH_one (i := 25) (d := 130) (v := ?_) rfl rfl (by kernel_rfl) (by kernel_rfl) (by kernel_rfl) (fun _ _ _ h => h) (by rfl) (by assumption) ?_ ?_
            rotate_left 1
            · intro w hSw; (try dsimp only at hSw); go_simp <;> with_reducible rfl
            simp only [List.foldl, Act.put, List.setIfInBounds_toArray, List.set_cons_zero, List.set_cons_succ]
            refine wpAnyH_one (i := 26) (d := 131) (v := ?_) rfl rfl (by kernel_rfl) (by kernel_rfl) (by kernel_rfl) (fun _ _ _ h => h) (by rfl) (by assumption) ?_ ?_
            rotate_left 1
            · intro w hSw; (try dsimp only at hSw); go_simp <;> with_reducible rfl
            simp only [List.foldl, Act.put, List.setIfInBounds_toArray, List.set_cons_zero, List.set_cons_succ]
            refine wpAnyH_one (i := 27) (d := 132) (v := ?_) rfl rfl (by kernel_rfl) (by kernel_rfl) (by kernel_rfl) (fun _ _ _ h => h) (by rfl) (by assumption) ?_ ?_
            rotate_left 1
            · intro w hSw; (try dsimp only at hSw); go_simp <;> with_reducible rfl
            simp only [List.foldl, Act.put, List.setIfInBounds_toArray, List.set_cons_zero, List.set_cons_succ]
            refine wpAnyH_one (i := 28) (d := 133) (v := ?_) rfl rfl (by kernel_rfl) (by kernel_rfl) (by kernel_rfl) (fun _ _ _ h => h) (by rfl) (by assumption) ?_ ?_
            rotate_left 1
            · intro w hSw; (try dsimp only at hSw); go_simp <;> with_reducible rfl
            simp only [List.foldl, Act.put, List.setIfInBounds_toArray, List.set_cons_zero, List.set_cons_succ]
            refine wpAnyH_one (i := 29) (d := 134) (v := ?_) rfl rfl (by kernel_rfl) (by kernel_rfl) (by kernel_rfl) (fun _ _ _ h => h) (by rfl) (by assumption) ?_ ?_
            rotate_left 1
            · intro w hSw; (try dsimp only at hSw); go_simp <;> with_reducible rfl
            simp only [List.foldl, Act.put, List.setIfInBounds_toArray, List.set_cons_zero, List.set_cons_succ]
            refine wpAnyH_one (i := 30) (d := 135) (v := ?_) rfl rfl (by kernel_rfl) (by kernel_rfl) (by kernel_rfl) (fun _ _ _ h => h) (by rfl) (by assumption) ?_ ?_
            rotate_left 1
            · intro w hSw; (try dsimp only at hSw); go_simp <;> with_reducible rfl
            simp only [List.foldl, Act.put, List.setIfInBounds_toArray, List.set_cons_zero, List.set_cons_succ]
            refine wpAnyH_one (i := 31) (d := 136) (v := ?_) rfl rfl (by kernel_rfl) (by kernel_rfl) (by kernel_rfl) (fun _ _ _ h => h) (by rfl) (by assumption) ?_ ?_
            rotate_left 1
            · intro w hSw; (try dsimp only at hSw); go_simp <;> with_reducible rfl
            simp only [List.foldl, Act.put, List.setIfInBounds_toArray, List.set_cons_zero, List.set_cons_succ]
            refine wpAnyH_one (i := 32) (d := 137) (v := ?_) rfl rfl (by kernel_rfl) (by kernel_rfl) (by kernel_rfl) (fun _ _ _ h => h) (by rfl) (by assumption) ?_ ?_
            rotate_left 1
            · intro w hSw; (try dsimp only at hSw); go_simp <;> with_reducible rfl
            simp only [List.foldl, Act.put, List.setIfInBounds_toArray, List.set_cons_zero, List.set_cons_succ]
            refine wpAnyH_one (i := 33) (d := 138) (v := ?_) rfl rfl (by kernel_rfl) (by kernel_rfl) (by kernel_rfl) (fun _ _ _ h => h) (by rfl) (by assumption) ?_ ?_
            rotate_left 1
            · intro w hSw; (try dsimp only at hSw); go_simp <;> with_reducible rfl
            simp only [List.foldl, Act.put, List.setIfInBounds_toArray, List.set_cons_zero, List.set_cons_succ]
            refine wpAnyH_one (i := 34) (d := 139) (v := ?_) rfl rfl (by kernel_rfl) (by kernel_rfl) (by kernel_rfl) (fun _ _ _ h => h) (by rfl) (by assumption) ?_ ?_
            rotate_left 1
            · intro w hSw; (try dsimp only at hSw); go_simp <;> with_reducible rfl
            simp only [List.foldl, Act.put, List.setIfInBounds_toArray, List.set_cons_zero, List.set_cons_succ]
            refine wpAnyH_one (i := 35) (d := 140) (v := ?_) rfl rfl (by kernel_rfl) (by kernel_rfl) (by kernel_rfl) (fun _ _ _ h => h) (by rfl) (by assumption) ?_ ?_
            rotate_left 1
            · intro w hSw; (try dsimp only at hSw); go_simp <;> with_reducible rfl
            simp only [List.foldl, Act.put, List.setIfInBounds_toArray, List.set_cons_zero, List.set_cons_succ]
            refine wpAnyH_one (i := 36) (d := 141) (v := ?_) rfl rfl (by kernel_rfl) (by kernel_rfl) (by kernel_rfl) (fun _ _ _ h => h) (by rfl) (by assumption) ?_ ?_
            rotate_left 1
            · intro w hSw; (try dsimp only at hSw); go_simp <;> with_reducible rfl
            simp only [List.foldl, Act.put, List.setIfInBounds_toArray, List.set_cons_zero, List.set_cons_succ]
            refine wpAnyH_one (i := 37) (d := 142) (v := ?_) rfl rfl (by kernel_rfl) (by kernel_rfl) (by kernel_rfl) (fun _ _ _ h => h) (by rfl) (by assumption) ?_ ?_
            rotate_left 1
            · intro w hSw; (try dsimp only at hSw); go_simp <;> with_reducible rfl
            simp only [List.foldl, Act.put, List.setIfInBounds_toArray, List.set_cons_zero, List.set_cons_succ]
            refine wpAnyH_one (i := 38) (d := 143) (v := ?_) rfl rfl (by kernel_rfl) (by kernel_rfl) (by kernel_rfl) (fun _ _ _ h => h) (by rfl) (by assumption) ?_ ?_
            rotate_left 1
            · intro w hSw; (try dsimp only at hSw); go_simp <;> with_reducible rfl
            simp only [List.foldl, Act.put, List.setIfInBounds_toArray, List.set_cons_zero, List.set_cons_succ]
            refine wpAnyH_one (i := 39) (d := 144) (v := ?_) rfl rfl (by kernel_rfl) (by kernel_rfl) (by kernel_rfl) (fun _ _ _ h => h) (by rfl) (by assumption) ?_ ?_
            rotate_left 1
            · intro w hSw; (try dsimp only at hSw); go_simp <;> with_reducible rfl
            simp only [List.foldl, Act.put, List.setIfInBounds_toArray, List.set_cons_zero, List.set_cons_succ]
            refine wpAnyH_done (by kernel_rfl) ?_ _
            go_wp2_with fail
            go_roundw
            case rel => exact ⟨j + 1, by omega, by go_num, bl_drew hb.out⟩
            case measure => simp [intOf]; omega
        · have B8 := Hid.mk' (bl_trans B7.out hb.out)
          clear hb HU7 HZ7 HX7 B7
          obtain ⟨x0, x1, x2, x3, x4, x5, x6, x7, x8, x9, xf⟩ := (KA.out.later B8.out).ten
          obtain ⟨y0, y1, y2, y3, y4, y5, y6, y7, y8, y9, yf⟩ := (KB.out.later B8.out).ten
          have k9 := Blk.new wr #[.slice p0 A.l0.length n0, .slice none 0 0, .slice p2 A.l2.length n2, .slice p3 A.l3.length n3, .slice none 0 0, .slice none 0 0, .slice p6 A.l6.length n6, .slice none 0 0, .bool false, .bool false] 28
          have b9 : Below wr.heap.size wr (wr.alloc (.cells #[.slice p0 A.l0.length n0, .slice none 0 0, .slice p2 A.l2.length n2, .slice p3 A.l3.length n3, .slice none 0 0, .slice none 0 0, .slice p6 A.l6.length n6, .slice none 0 0, .bool false, .bool false] 28)) := bl_alloc (Below.refl _ _) _
          have B9 := Hid.mk' (bl_trans B8.out b9)
          obtain ⟨z0, z1, z2, z3, z4, z5, z6, z7, z8, z9, zf⟩ := k9.ten
          clear y0 y1 y2 y3 y4 y5 y6 y7 y8 y9 yf
          obtain ⟨y0, y1, y2, y3, y4, y5, y6, y7, y8, y9, yf⟩ := (KB.out.later B9.out).ten
          clear k9 b9
          go_wp2_with fail
          refine (implApart_any p0 none p2 p3 none none p6 none n0 0 n2 n3 0 0 n6 0 ⟨A.l0, [], A.l2, A.l3, [], [], A.l6, [], false, false⟩ r0 none none r3 none none r6 none m0 0 0 m3 0 0 m6 0 ⟨Bf.l0, [], [], Bf.l3, [], [], Bf.l6, [], false, false⟩ 0 0 _ ⟨(IA.out.later B9.out).p0, Els.nil, (IA.out.later B9.out).p2, (IA.out.later B9.out).p3, Els.nil, Els.nil, (IA.out.later B9.out).p6, Els.nil⟩ ⟨(IB.out.later B9.out).p0, Els.nil, Els.nil, (IB.out.later B9.out).p3, Els.nil, Els.nil, (IB.out.later B9.out).p6, Els.nil⟩ ⟨KFA.out.1, Nat.zero_le _, KFA.out.2.2.1, KFA.out.2.2.2.1, Nat.zero_le _, Nat.zero_le _, KFA.out.2.2.2.2.2.2.1, Nat.zero_le _⟩ ⟨KFB.out.1, Nat.zero_le _, Nat.zero_le _, KFB.out.2.2.2.1, Nat.zero_le _, Nat.zero_le _, KFB.out.2.2.2.2.2.2.1, Nat.zero_le _⟩).mono ?_
          rintro e vz ⟨rfl, hbz⟩
          have LZ := Hid.mk' (bl_trans (bl_trans LL.out B9.out) hbz)
          rw [clB_reads _ _ rfl rfl rfl rfl rfl rfl]
          clear x0 x1 x2 x3 x4 x5 x6 x7 x8 x9 xf y0 y1 y2 y3 y4 y5 y6 y7 y8 y9 yf z0 z1 z2 z3 z4 z5 z6 z7 z8 z9 zf hbz
          go_wp2_with fail
          go_ret
          exact ⟨rfl, LZ.out⟩
end Go.Proofs.Ytgfchpbdoebmbaa
