import Derived.Test.YtigllpegaljkmaaDoorN32j
namespace Go.Proofs.YtigllpegaljkmaaDoor
open Go.RowKit
set_option linter.unusedVariables false
set_option linter.unusedSimpArgs false

theorem in_l1 (a : Int) (m : Nat) : (decide (0 ≤ a) && decide (a ≤ (m : Int) - 1)) = decide (0 ≤ a ∧ a < (m : Int)) := by
  rw [Bool.eq_iff_iff]; simp; omega

theorem Blk.c0 {w : World} {n : Nat} {a b c d : Value} {t : TypeId} (h : Blk w n #[a, b, c, d] t) : w.cell? ⟨n, 0, none⟩ = some a := h.cell 0

set_option maxHeartbeats 4000000 in
theorem specMeet_bad (n wk a b : Int) (s : Option Addr) (c : Nat) (L : List (Int × Int)) (w : World) (hL : Eds w s L) (hl : L.length ≤ 1048576) (hno : meOk n L wk a b = false) :
    Calls Tryd.prog 8 #[.int .i64 n, .slice s L.length c, .int .i64 wk, .int .i64 a, .int .i64 b] w fun e w' => PlS w (meB n L wk a b) e w' := by
  have hA : Hid (meB n L wk a b = none) := by simp [Hid, meB, hno]
  cases hg : gOk n L
  · go_enter Tryd.func8, Tryd.ntmps8
    go_wp2_with (go_at_call 22; refine (specGraphOk_any _ _ _ L _ hL hl).mono ?_; rintro e w' ⟨rfl, hq⟩; subst hq; rw [hg])
    refine bodyPost_ret (v := .tuple #[.slice none 0 0, .bool false]) (by simp [results, Tryd.results8]) rfl ?_
    rw [hA.out]; exact PlS.none (Below.refl _ _)
  cases hk : wkOk wk
  · go_enter Tryd.func8, Tryd.ntmps8
    go_wp2_with (first | (go_at_call 22; refine (specGraphOk_any _ _ _ L _ hL hl).mono ?_; rintro e w' ⟨rfl, hq⟩; subst hq; rw [hg]) | (go_at_call 24; refine (l1In_any _ _ _ _).mono ?_; rintro e w' ⟨rfl, hq⟩; subst hq; first | rw [wk_l1, hk]))
    refine bodyPost_ret (v := .tuple #[.slice none 0 0, .bool false]) (by simp [results, Tryd.results8]) rfl ?_
    rw [hA.out]; exact PlS.none (Below.refl _ _)
  obtain ⟨m, rfl, hm, hl2, hin, h16⟩ := gOk_open hg
  have tw : IntKind.i64.wrap ((m : Int) - 1) = (m : Int) - 1 := by rw [IntKind.wrap_i64]; omega
  by_cases h6 : (m : Int) ≤ 6
  · have t6 : decide (6 < (m : Int)) = false := by simp; omega
    by_cases hab : a = b
    · have tab : (a == b) = true := by simp [hab]
      go_enter Tryd.func8, Tryd.ntmps8
      go_wp2_with (first | (go_at_call 22; refine (specGraphOk_any _ _ _ L _ hL hl).mono ?_; rintro e w' ⟨rfl, hq⟩; subst hq; rw [hg]) | (go_at_call 24; refine (l1In_any _ _ _ _).mono ?_; rintro e w' ⟨rfl, hq⟩; subst hq; first | rw [wk_l1, hk]))
      refine bodyPost_ret (v := .tuple #[.slice none 0 0, .bool false]) (by simp [results, Tryd.results8]) rfl ?_
      rw [hA.out]; exact PlS.none (Below.refl _ _)
    · have tab : (a == b) = false := by simp [hab]
      have hka : (decide (0 ≤ a) && decide (a ≤ (m : Int) - 1)) = decide (0 ≤ a ∧ a < (m : Int)) := in_l1 a m
      have hkb : (decide (0 ≤ b) && decide (b ≤ (m : Int) - 1)) = decide (0 ≤ b ∧ b < (m : Int)) := in_l1 b m
      cases ha : decide (0 ≤ a ∧ a < (m : Int))
      · rw [ha] at hka
        go_enter Tryd.func8, Tryd.ntmps8
        go_wp2_with (first | (go_at_call 22; refine (specGraphOk_any _ _ _ L _ hL hl).mono ?_; rintro e w' ⟨rfl, hq⟩; subst hq; rw [hg]) | (go_at_call 24; refine (l1In_any _ _ _ _).mono ?_; rintro e w' ⟨rfl, hq⟩; subst hq; first | rw [wk_l1, hk] | rw [hka]))
        refine bodyPost_ret (v := .tuple #[.slice none 0 0, .bool false]) (by simp [results, Tryd.results8]) rfl ?_
        rw [hA.out]; exact PlS.none (Below.refl _ _)
      · rw [ha] at hka
        cases hb : decide (0 ≤ b ∧ b < (m : Int))
        · rw [hb] at hkb
          go_enter Tryd.func8, Tryd.ntmps8
          go_wp2_with (first | (go_at_call 22; refine (specGraphOk_any _ _ _ L _ hL hl).mono ?_; rintro e w' ⟨rfl, hq⟩; subst hq; rw [hg]) | (go_at_call 24; refine (l1In_any _ _ _ _).mono ?_; rintro e w' ⟨rfl, hq⟩; subst hq; first | rw [wk_l1, hk] | rw [hka] | rw [hkb]))
          refine bodyPost_ret (v := .tuple #[.slice none 0 0, .bool false]) (by simp [results, Tryd.results8]) rfl ?_
          rw [hA.out]; exact PlS.none (Below.refl _ _)
        · exfalso
          simp [meOk, hg, hk, h6, hab, ha, hb] at hno
  · have t6 : decide (6 < (m : Int)) = true := by simp; omega
    go_enter Tryd.func8, Tryd.ntmps8
    go_wp2_with (first | (go_at_call 22; refine (specGraphOk_any _ _ _ L _ hL hl).mono ?_; rintro e w' ⟨rfl, hq⟩; subst hq; rw [hg]) | (go_at_call 24; refine (l1In_any _ _ _ _).mono ?_; rintro e w' ⟨rfl, hq⟩; subst hq; first | rw [wk_l1, hk]))
    refine bodyPost_ret (v := .tuple #[.slice none 0 0, .bool false]) (by simp [results, Tryd.results8]) rfl ?_
    rw [hA.out]; exact PlS.none (Below.refl _ _)

set_option maxRecDepth 100000 in
set_option maxHeartbeats 16000000 in
theorem specMeet_any (n wk a b : Int) (s : Option Addr) (c : Nat) (L : List (Int × Int)) (w : World) (hL : Eds w s L) (hl : L.length ≤ 1048576) :
    Calls Tryd.prog 8 #[.int .i64 n, .slice s L.length c, .int .i64 wk, .int .i64 a, .int .i64 b] w fun e w' => PlS w (meB n L wk a b) e w' := by
  cases hok : meOk n L wk a b
  · exact specMeet_bad n wk a b s c L w hL hl hok
  have hok' := hok
  simp only [meOk, Bool.and_eq_true, decide_eq_true_eq] at hok'
  obtain ⟨⟨⟨⟨⟨hg, hk⟩, h6⟩, hab⟩, ha⟩, hb⟩ := hok'
  obtain ⟨m, rfl, hm, hl2, hin, h16⟩ := gOk_open hg
  obtain ⟨x, rfl⟩ : ∃ x : Nat, a = (x : Int) := ⟨a.toNat, by omega⟩
  obtain ⟨y, rfl⟩ : ∃ y : Nat, b = (y : Int) := ⟨b.toNat, by omega⟩
  have hx : x < m := by omega
  have hy : y < m := by omega
  have hm6 : m ≤ 6 := by omega
  have HA : Hid (meB m L wk x y = bfs L wk x y 1000 [(List.replicate m 0, [])] 0) := by simp [Hid, meB, hok]
  have HI : Hid (Inn m L) := hin
  have HL : Hid (Eds w s L) := hL
  have tw : IntKind.i64.wrap ((m : Int) - 1) = (m : Int) - 1 := by rw [IntKind.wrap_i64]; omega
  have t6 : decide (6 < (m : Int)) = false := by simp; omega
  have tab : ((x : Int) == (y : Int)) = false := by simpa using hab
  have hka : (decide (0 ≤ (x : Int)) && decide ((x : Int) ≤ (m : Int) - 1)) = true := by simp; omega
  have hkb : (decide (0 ≤ (y : Int)) && decide ((y : Int) ≤ (m : Int) - 1)) = true := by simp; omega
  obtain ⟨i0, hi, hz0, hz1, hz2⟩ := info_parts Tryd.infoI
  go_enter Tryd.func8, Tryd.ntmps8
  go_wp2_with (first
    | (go_at_call 22; refine (specGraphOk_any _ _ _ L _ hL hl).mono ?_; rintro e w' ⟨rfl, hq⟩; subst hq; rw [hg])
    | (go_at_call 24; refine (l1In_any _ _ _ _).mono ?_; rintro e w' ⟨rfl, hq⟩; subst hq; first | rw [wk_l1, hk] | rw [hka] | rw [hkb])
    | (at_make; refine wpList_make_full _ rfl _ _ 30 rfl w'.heap.size 3 i0 (.int .i64 0) 1 Tryd.underlying30 hi hz0 hz1 .i64 .i64 _ _ m rfl rfl rfl rfl (by rw [hz2]; omega) (by unfold maxLen; omega) (by simp) ?_))
  intro w2 hown hgrow
  have b02 : Below w'.heap.size w' w2 := (Below.refl _ _).grown hgrow (Nat.le_refl _) (fun k h => by cases h)
  have hrow : VRow w2 w'.heap.size (.slice (some ⟨w'.heap.size, 0, none⟩) m m) (List.replicate m 0) := by
    rw [toList_madeCells_one] at hown
    unfold VRow
    rw [List.length_replicate, List.map_replicate]
    exact hown
  have hz2' : w'.heap.size ≤ w2.heap.size := b02.size
  have kn := Blk.new w2 #[.slice (some ⟨w'.heap.size, 0, none⟩) m m, .int .i64 (-1), .int .i64 0, .int .i64 0] 64
  have l3 : Below w2.heap.size w2 (w2.alloc (.cells #[.slice (some ⟨w'.heap.size, 0, none⟩) m m, .int .i64 (-1), .int .i64 0, .int .i64 0] 64)) := bl_alloc (Below.refl _ _) _
  have N3 : Hid (NRow (w2.alloc (.cells #[.slice (some ⟨w'.heap.size, 0, none⟩) m m, .int .i64 (-1), .int .i64 0, .int .i64 0] 64)) w'.heap.size (.slice (some ⟨w2.heap.size, 0, none⟩) 1 1) [(.slice (some ⟨w'.heap.size, 0, none⟩) m m, -1, 0, 0)]) := (NRow.new kn).mono hz2'
  have O3 : Hid (NOk (w2.alloc (.cells #[.slice (some ⟨w'.heap.size, 0, none⟩) m m, .int .i64 (-1), .int .i64 0, .int .i64 0] 64)) w'.heap.size [(.slice (some ⟨w'.heap.size, 0, none⟩) m m, -1, 0, 0)] [(List.replicate m 0, [])]) := by
    refine ⟨rfl, fun j x q hx hq => ?_, fun x q hx hq => ?_, fun j x q h0 hx hq => ?_⟩
    · have hj : j = 0 := by have := (List.getElem?_eq_some_iff.1 hx).1; simpa using this
      subst hj
      simp at hx hq
      subst hx hq
      refine ⟨some ⟨w'.heap.size, 0, none⟩, m, by simp, ?_⟩
      rw [List.length_replicate]
      exact hrow.later l3
    · simp at hx hq; subst hx hq; exact ⟨rfl, rfl⟩
    · have hj : j = 0 := by have := (List.getElem?_eq_some_iff.1 hx).1; simpa using this
      omega
  have L3 : Hid (Below w'.heap.size w' (w2.alloc (.cells #[.slice (some ⟨w'.heap.size, 0, none⟩) m m, .int .i64 (-1), .int .i64 0, .int .i64 0] 64))) := bl_trans b02 l3
  clear hown hgrow hi hz0 hz1 hz2 hL hin b02 hrow kn l3 hz2'
  go_wp2_with fail
  go_loopw [12, 13] (fun lv iv wr => ∃ (i : Nat) (so : Option Addr) (co : Nat) (X : List (Value × Int × Int × Int)) (Q : List Way), i ≤ X.length ∧ iv = .int .i64 i ∧ lv = .slice so X.length co ∧ Hid (NRow wr w'.heap.size (.slice so X.length co) X) ∧ Hid (NOk wr w'.heap.size X Q) ∧ Hid (QOk m Q) ∧ Hid (bfs L wk x y 1000 [(List.replicate m 0, [])] 0 = bfs L wk x y (1000 - i) Q i) ∧ Hid (Below w'.heap.size w' wr)) (fun _ iv _ => 1000 - (intOf iv).toNat)
  case atStart => exact ⟨0, _, _, _, _, Nat.zero_le _, rfl, rfl, N3, O3, QOk.one m, rfl, L3⟩
  case round =>
    clear N3 O3 L3
    obtain ⟨i, so, co, X, Q, hiX, rfl, rfl, hN, hO, hQ, hR, hb⟩ := hrel
    have hlenH : Hid (X.length = Q.length) := hO.out.len
    have hX729 : X.length ≤ 729 := by rw [hlenH.out]; exact hQ.out.len hm6
    by_cases hlt : i < X.length
    · obtain ⟨xn, hxn⟩ : ∃ xn, X[i]? = some xn := ⟨X[i], by simp [hlt]⟩
      obtain ⟨q, hq⟩ : ∃ q, Q[i]? = some q := ⟨Q[i]'(by rw [← hlenH.out]; exact hlt), by simp⟩
      have hqm : q ∈ Q := List.mem_of_getElem? hq
      obtain ⟨hqT, hqL, hqS⟩ := hQ.out.st q hqm
      obtain ⟨sa, ca, hxv, hV⟩ := hO.out.row i xn q hxn hq
      obtain ⟨A, R⟩ := q
      simp only at hqT hqL hqS hxv hV
      obtain ⟨xv, xf, xk, xt⟩ := xn
      simp only at hxv
      subst hxv
      obtain ⟨g, c1, hv, hgl, d0, d1, d2, d3⟩ := hN.out.get hxn
      simp only [Value.slice.injEq, true_and] at hv
      obtain ⟨rfl, rfl⟩ := hv
      simp only at d0 d1 d2 d3
      have hstep : Hid (bfs L wk x y (1000 - i) Q i = if (run1 A x && run1 A y) = true then some R else bfs L wk x y (1000 - (i + 1)) (expQ Q (A, R) (mvs L wk A)) (i + 1)) := bfs_some hq (by omega)
      have hIA : Ints wr sa A := hV.ints'
      obtain ⟨pb, po, rfl, hpb, hcs⟩ := hIA.get (k := x) (by omega)
      have cx := hcs x (by omega)
      have cy := hcs y (by omega)
      rw [← List.getD_eq_getElem?_getD] at cx cy
      obtain ⟨vx, hvx⟩ : ∃ v, Hid (A.getD x 0 = v) := ⟨_, rfl⟩
      obtain ⟨vy, hvy⟩ : ∃ v, Hid (A.getD y 0 = v) := ⟨_, rfl⟩
      rw [hvx.out] at cx
      rw [hvy.out] at cy
      have rx : Hid (run1 A x = decide (vx = 1)) := by unfold run1; rw [hvx.out]; rfl
      have ry : Hid (run1 A y = decide (vy = 1)) := by unfold run1; rw [hvy.out]; rfl
      have t0 : decide ((i : Int) < (X.length : Int)) = true := by simp; omega
      have iI : (i : Int) < (X.length : Int) := by omega
      have xI : (x : Int) < (A.length : Int) := by omega
      have yI : (y : Int) < (A.length : Int) := by omega
      have HV : Hid (VRow wr w'.heap.size (.slice (some ⟨pb, po, none⟩) A.length ca) A) := hV
      have HQL : Hid (A.length = m) := hqL
      have HXN : Hid (X[i]? = some (.slice (some ⟨pb, po, none⟩) A.length ca, xf, xk, xt)) := hxn
      have HQN : Hid (Q[i]? = some (A, R)) := hq
      have HQT : Hid (Thr A) := hqT
      clear hV hqL hxn hq hqm hqT hqS hcs hIA
      by_cases h1 : vx = 1 ∧ vy = 1
      · obtain ⟨rfl, rfl⟩ := h1
        have hfin : Hid (meB m L wk x y = some R) := by
          rw [HA.out, hR.out, hstep.out, rx.out, ry.out]; rfl
        clear hstep hR
        have hNr : Hid (NRow (wr.alloc (.cells #[.slice (some ⟨pb, po, none⟩) A.length ca, .int .i64 xf, .int .i64 xk, .int .i64 xt] 64)) w'.heap.size (.slice (some ⟨g, 0, none⟩) X.length co) X) := hN.out.later (bl_alloc (Below.refl _ _) _)
        have hLr : Hid (Below w'.heap.size w' (wr.alloc (.cells #[.slice (some ⟨pb, po, none⟩) A.length ca, .int .i64 xf, .int .i64 xk, .int .i64 xt] 64))) := bl_alloc hb.out _
        have hOz := hO.out.zero
        have hOb := hO.out.back
        have HOz : Hid (∀ x q, X[0]? = some x → Q[0]? = some q → x.2.1 = -1 ∧ q.2 = []) := hOz
        have HOb : Hid (∀ (j : Nat) x q, 0 < j → X[j]? = some x → Q[j]? = some q → ∃ (f : Nat) (p : Way), f < j ∧ x.2.1 = (f : Int) ∧ Q[f]? = some p ∧ q.2 = p.2 ++ [(x.2.2.1, x.2.2.2)]) := hOb
        have hRl : R.length ≤ 12 := hQ.out.way hm6 (List.mem_of_getElem? HQN.out)
        obtain ⟨n0, n1, n2, n3⟩ : wr.cell? ⟨g, i * 4, none⟩ = some (.slice (some ⟨pb, po, none⟩) A.length ca) ∧ wr.cell? ⟨g, i * 4 + 1, none⟩ = some (.int .i64 xf) ∧ wr.cell? ⟨g, i * 4 + 2, none⟩ = some (.int .i64 xk) ∧ wr.cell? ⟨g, i * 4 + 3, none⟩ = some (.int .i64 xt) := ⟨d0, d1, d2, d3⟩
        clear hOz hOb hN hO
        go_upto_region 9 with fail
        obtain ⟨Z, hZ⟩ : ∃ Z, wr.alloc (.cells #[.slice (some ⟨pb, po, none⟩) A.length ca, .int .i64 xf, .int .i64 xk, .int .i64 xt] 64) = Z := ⟨_, rfl⟩
        rw [hZ] at hNr hLr ⊢
        have ke := Blk.new Z #[] 62
        have E0 : Hid (MRow (Z.alloc (.cells #[] 62)) w'.heap.size (.slice (some ⟨Z.heap.size, 0, none⟩) 0 0) []) := (MRow.empty ke).mono hLr.out.size
        have NE : Hid (NRow (Z.alloc (.cells #[] 62)) w'.heap.size (.slice (some ⟨g, 0, none⟩) X.length co) X) := hNr.out.later (bl_alloc (Below.refl _ _) _)
        have LE : Hid (Below w'.heap.size w' (Z.alloc (.cells #[] 62))) := bl_alloc hLr.out _
        clear hZ ke hNr hLr n0 n1 n2 n3 d0 d1 d2 d3 cx cy hb HV
        go_wp2_with fail
        go_loopw [15, 16] (fun ov kv wq => ∃ (k : Nat) (go : Nat) (co2 : Nat) (O : List (Int × Int)) (p : Way), k < X.length ∧ kv = .int .i64 k ∧ ov = .slice (some ⟨go, 0, none⟩) O.length co2 ∧ Hid (MRow wq w'.heap.size (.slice (some ⟨go, 0, none⟩) O.length co2) O) ∧ Hid (Q[k]? = some p) ∧ Hid (R = p.2 ++ O) ∧ Hid (NRow wq w'.heap.size (.slice (some ⟨g, 0, none⟩) X.length co) X) ∧ Hid (Below w'.heap.size w' wq)) (fun _ kv _ => (intOf kv).toNat)
        case atStart => exact ⟨i, Z.heap.size, 0, [], (A, R), hlt, rfl, rfl, E0, HQN, by simp [Hid], NE, LE⟩
        case round =>
          clear E0 NE LE
          obtain ⟨k, go, co2, O, p, hkX, rfl, rfl, hM, hQk, hRe, hN, hb⟩ := hrel
          obtain ⟨xn2, hxn2⟩ : ∃ xn, X[k]? = some xn := ⟨X[k], by simp [hkX]⟩
          obtain ⟨g2, c2, hv2, hg2, d0, d1, d2, d3⟩ := hN.out.get hxn2
          simp only [Value.slice.injEq, Option.some.injEq, Addr.mk.injEq, true_and, and_true] at hv2
          obtain ⟨rfl, rfl⟩ := hv2
          have kI : (k : Int) < (X.length : Int) := by omega
          by_cases hk0 : k = 0
          · subst hk0
            obtain ⟨z1, z2⟩ := HOz.out xn2 p hxn2 hQk.out
            rw [z1] at d1
            have hRO : R = O := by rw [hRe.out, z2]; rfl
            subst hRO
            go_wp2_with fail
            refine bodyPost_ret (v := .tuple #[.slice (some ⟨go, 0, none⟩) R.length co2, .bool true]) (by simp [results, Tryd.results8]) rfl ?_
            rw [hfin.out]
            exact ⟨_, rfl, hM.out, hb.out⟩
          · obtain ⟨f, p', f1, f2, f3, f4⟩ := HOb.out k xn2 p (by omega) hxn2 hQk.out
            rw [f2] at d1
            obtain ⟨k1, hk1⟩ : ∃ k1, xn2.2.2.1 = k1 := ⟨_, rfl⟩
            obtain ⟨k2, hk2⟩ : ∃ k2, xn2.2.2.2 = k2 := ⟨_, rfl⟩
            rw [hk1] at d2 f4
            rw [hk2] at d3 f4
            have hOl : O.length ≤ 12 := by have := congrArg List.length hRe.out; rw [List.length_append] at this; omega
            have kone := Blk.new wr #[.int .i64 k1, .int .i64 k2] 62
            have M1 : MRow (wr.alloc (.cells #[.int .i64 k1, .int .i64 k2] 62)) wr.heap.size (.slice (some ⟨wr.heap.size, 0, none⟩) 1 1) [(k1, k2)] := ⟨rfl, Or.inr ⟨wr.heap.size, 1, _, rfl, Nat.le_refl _, kone, Nat.le_refl _, by unfold maxLen; omega, rfl, rfl⟩⟩
            have hbs := hb.out.size
            have HM1 : Hid (MRow (wr.alloc (.cells #[.int .i64 k1, .int .i64 k2] 62)) w'.heap.size (.slice (some ⟨wr.heap.size, 0, none⟩) 1 1) [(k1, k2)]) := M1.mono hbs
            have HMO : Hid (MRow (wr.alloc (.cells #[.int .i64 k1, .int .i64 k2] 62)) w'.heap.size (.slice (some ⟨go, 0, none⟩) O.length co2) O) := hM.out.later (bl_alloc (Below.refl _ _) _)
            have HNN : Hid (NRow (wr.alloc (.cells #[.int .i64 k1, .int .i64 k2] 62)) w'.heap.size (.slice (some ⟨g, 0, none⟩) X.length co) X) := hN.out.later (bl_alloc (Below.refl _ _) _)
            have HBB : Hid (Below w'.heap.size w' (wr.alloc (.cells #[.int .i64 k1, .int .i64 k2] 62))) := bl_alloc hb.out _
            have hs2 := HBB.out.size
            have tf : decide ((0 : Int) ≤ (f : Int)) = true := by simp
            clear kone M1 hM hb hbs
            go_wp2_with (at_builtin; refine wpList_append_mv2 _ rfl (.tmp 100) (.tmp 101) rfl w'.heap.size (.slice (some ⟨wr.heap.size, 0, none⟩) 1 1) [(k1, k2)] rfl HM1.out go co2 O rfl _ HMO.out (by simp) (by omega) hs2 ?_)
            intro v' w5 hv5 hg5
            have hform : ∃ g' c', v' = .slice (some ⟨g', 0, none⟩) ([(k1, k2)] ++ O).length c' := by
              rcases hv5.form with ⟨_, e⟩ | ⟨g', c', e, _⟩
              · simp at e
              · exact ⟨g', c', e⟩
            obtain ⟨g5, c5, e⟩ := hform
            subst e
            have N5 : Hid (NRow w5 w'.heap.size (.slice (some ⟨g, 0, none⟩) X.length co) X) := HNN.out.keptM HM1.out hg5
            have L5 : Hid (Below w'.heap.size w' w5) := grown_mr HBB.out hs2 HM1.out hg5
            have M5 : Hid (MRow w5 w'.heap.size (.slice (some ⟨g5, 0, none⟩) ([(k1, k2)] ++ O).length c5) ([(k1, k2)] ++ O)) := hv5
            have hR5 : Hid (R = p'.2 ++ ([(k1, k2)] ++ O)) := by rw [hRe.out, f4]; simp [Hid]
            obtain ⟨xn3, hxn3⟩ : ∃ xn, X[k]? = some xn := ⟨X[k], by simp [hkX]⟩
            obtain ⟨g3, c3, hv3, hg3, b0, b1, b2, b3⟩ := N5.out.get hxn2
            simp only [Value.slice.injEq, Option.some.injEq, Addr.mk.injEq, true_and, and_true] at hv3
            obtain ⟨rfl, rfl⟩ := hv3
            rw [f2] at b1
            have F3 : Hid (Q[f]? = some p') := f3
            clear hv5 hg5 HM1 HMO HNN HBB d0 d1 d2 d3 b0 b2 b3 f3 f4 hRe hQk
            go_wp2_with fail
            go_roundw
            case rel => exact ⟨f, g5, c5, [(k1, k2)] ++ O, p', by omega, rfl, rfl, M5, F3, hR5, N5, L5⟩
            case measure => simp [intOf]; omega
      · have hgo : Hid (bfs L wk x y 1000 [(List.replicate m 0, [])] 0 = bfs L wk x y (1000 - (i + 1)) (expQ Q (A, R) (mvs L wk A)) (i + 1)) := by
          rw [hR.out, hstep.out, if_neg]; · rfl
          rw [rx.out, ry.out]; simp; intro e1 e2; exact h1 ⟨e1, e2⟩
        have tpick : ((vx == 1) && (vy == 1)) = false := by
          rw [Bool.eq_false_iff]; intro e; simp at e; exact h1 e
        have hcond : (vx == 1) = false ∨ ((vx == 1) = true ∧ (vy == 1) = false) := by
          cases e1 : (vx == 1)
          · exact Or.inl rfl
          · rw [e1] at tpick; exact Or.inr ⟨rfl, by simpa using tpick⟩
        have NB : Hid (NRow (wr.alloc (.cells #[.slice (some ⟨pb, po, none⟩) A.length ca, .int .i64 xf, .int .i64 xk, .int .i64 xt] 64)) w'.heap.size (.slice (some ⟨g, 0, none⟩) X.length co) X) := hN.out.later (bl_alloc (Below.refl _ _) _)
        have OB : Hid (NOk (wr.alloc (.cells #[.slice (some ⟨pb, po, none⟩) A.length ca, .int .i64 xf, .int .i64 xk, .int .i64 xt] 64)) w'.heap.size X Q) := hO.out.later (bl_alloc (Below.refl _ _) _)
        have VB : Hid (VRow (wr.alloc (.cells #[.slice (some ⟨pb, po, none⟩) A.length ca, .int .i64 xf, .int .i64 xk, .int .i64 xt] 64)) w'.heap.size (.slice (some ⟨pb, po, none⟩) A.length ca) A) := HV.out.later (bl_alloc (Below.refl _ _) _)
        have LB : Hid (Below w'.heap.size w' (wr.alloc (.cells #[.slice (some ⟨pb, po, none⟩) A.length ca, .int .i64 xf, .int .i64 xk, .int .i64 xt] 64))) := bl_alloc hb.out _
        have KB : Hid (Blk (wr.alloc (.cells #[.slice (some ⟨pb, po, none⟩) A.length ca, .int .i64 xf, .int .i64 xk, .int .i64 xt] 64)) wr.heap.size #[.slice (some ⟨pb, po, none⟩) A.length ca, .int .i64 xf, .int .i64 xk, .int .i64 xt] 64) := Blk.new _ _ _
        have HI' : Hid (Inn A.length L) := by rw [HQL.out]; exact HI
        have hA16 : A.length ≤ 16 := by rw [HQL.out]; omega
        clear hstep hR hN hO hb HV tpick
        go_upto_region 8 with fail
        go_cut [81] (fun u wx => u = .bool false ∧ wx = wr.alloc (.cells #[.slice (some ⟨pb, po, none⟩) A.length ca, .int .i64 xf, .int .i64 xk, .int .i64 xt] 64))
        case first =>
          rcases hcond with hvx1 | ⟨hvx1, hvy1⟩
          all_goals
            go_wp2_with fail
            go_meet
            exact ⟨rfl, rfl⟩
        case rest =>
          obtain ⟨rfl, rfl⟩ := hcut
          go_wp2_with fail
          obtain ⟨Z, hZ⟩ : ∃ Z, wr.alloc (.cells #[.slice (some ⟨pb, po, none⟩) A.length ca, .int .i64 xf, .int .i64 xk, .int .i64 xt] 64) = Z := ⟨_, rfl⟩
          obtain ⟨xb, hxb⟩ : ∃ xb, wr.heap.size = xb := ⟨_, rfl⟩
          rw [hZ] at NB OB VB LB KB ⊢
          rw [hxb] at KB ⊢
          have hXB : Hid (¬ (Value.slice (some ⟨g, 0, none⟩) X.length co).ownBlock = some xb) := by
            intro e; simp [Value.ownBlock] at e; omega
          clear hZ hxb cx cy d0 d1 d2 d3 hcond
          refine (l18Moves_any s c (some ⟨pb, po, none⟩) ca wk L A _ (HL.out.later LB.out) hl HI'.out VB.out.ints' hA16).mono ?_
          rintro e w4 ⟨⟨v, rfl, hM⟩, hb4⟩
          have hlM := mvs_len L wk A
          have hzb := LB.out.size
          obtain ⟨M, hMM⟩ : ∃ M, Hid (mvs L wk A = M) := ⟨_, rfl⟩
          rw [hMM.out] at hM hlM hgo
          obtain ⟨sv, cv, e⟩ := hM.shape
          subst e
          have M4 : Hid (MRow w4 w'.heap.size (.slice sv M.length cv) M) := hM.mono hzb
          have N4 : Hid (NRow w4 w'.heap.size (.slice (some ⟨g, 0, none⟩) X.length co) X) := NB.out.later hb4
          have O4 : Hid (NOk w4 w'.heap.size X Q) := OB.out.later hb4
          have V4 : Hid (VRow w4 w'.heap.size (.slice (some ⟨pb, po, none⟩) A.length ca) A) := VB.out.later hb4
          have K4 : Hid (Blk w4 xb #[.slice (some ⟨pb, po, none⟩) A.length ca, .int .i64 xf, .int .i64 xk, .int .i64 xt] 64) := KB.out.later hb4
          have L4 : Hid (Below w'.heap.size w' w4) := bl_trans LB.out hb4
          have HQ0 : Hid (QOk m Q) := hQ
          have hMl : M.length ≤ 32 := by omega
          clear hM hb4 NB OB VB LB KB hQ hlM hzb
          go_wp2_with fail
          go_loopw [12, 18] (fun lv kv wq => ∃ (k : Nat) (so : Option Addr) (co : Nat) (X2 : List (Value × Int × Int × Int)) (Q2 : List Way), k ≤ M.length ∧ kv = .int .i64 k ∧ lv = .slice so X2.length co ∧ i < X2.length ∧ Hid (¬ (Value.slice so X2.length co).ownBlock = some xb) ∧ Hid (NRow wq w'.heap.size (.slice so X2.length co) X2) ∧ Hid (NOk wq w'.heap.size X2 Q2) ∧ Hid (Q2 = expQ Q (A, R) (M.take k)) ∧ Hid (QOk m Q2) ∧ Hid (Q2[i]? = some (A, R)) ∧ Hid (MRow wq w'.heap.size (.slice sv M.length cv) M) ∧ Hid (VRow wq w'.heap.size (.slice (some ⟨pb, po, none⟩) A.length ca) A) ∧ Hid (Blk wq xb #[.slice (some ⟨pb, po, none⟩) A.length ca, .int .i64 xf, .int .i64 xk, .int .i64 xt] 64) ∧ Hid (Below w'.heap.size w' wq)) (fun _ kv _ => M.length - (intOf kv).toNat)
          case atStart => exact ⟨0, _, _, X, Q, Nat.zero_le _, rfl, rfl, hlt, hXB, N4, O4, by simp [Hid, expQ], HQ0, HQN, M4, V4, K4, L4⟩
          case round =>
            clear N4 O4 M4 V4 K4 L4
            obtain ⟨k, so2, co2, X2, Q2, hkM, rfl, rfl, hiX2, hXB2, N4, O4, hQe, hQ2, hQi, M4, V4, K4, L4⟩ := hrel
            have hlen2 : Hid (X2.length = Q2.length) := O4.out.len
            have hX2 : X2.length ≤ 729 := by rw [hlen2.out]; exact hQ2.out.len hm6
            by_cases hkl : k < M.length
            · obtain ⟨mb, mo, hsv, hmb, e1, e2⟩ := M4.out.eds.get hkl
              obtain ⟨⟨p1, p2⟩, hmx⟩ : ∃ z, Hid (M[k]?.getD (0, 0) = z) := ⟨_, rfl⟩
              rw [hmx.out] at e1 e2
              have hmem : (p1, p2) ∈ mvs L wk A := by rw [hMM.out, ← hmx.out]; exact memE hkl
              obtain ⟨xx, hxl, hcase⟩ := mem_mvs hmem
              have hp2 : p2 = (xx : Int) := by
                rcases hcase with ⟨e, _⟩ | ⟨e, _⟩
                · exact (Prod.mk.inj e).2
                · exact (Prod.mk.inj e).2
              subst hp2
              subst hsv
              have HMem : Hid ((p1, (xx : Int)) ∈ mvs L wk A) := hmem
              have hQn : Hid (expQ Q (A, R) (M.take (k + 1)) = addQ Q2 (A, R) (p1, (xx : Int))) := by rw [expQ_take hkl hmx.out, ← hQe.out]; rfl
              have tk : decide ((k : Int) < (M.length : Int)) = true := by simp; omega
              have kI : (k : Int) < (M.length : Int) := by omega
              clear hcase hmem
              go_wp2_with fail
              have x00 := K4.out.c0
              go_region_held3 (fun W => W.cell? ⟨xb, 0, none⟩ = some (.slice (some ⟨pb, po, none⟩) A.length ca) ∧ W.cell? ⟨mb, mo + k * 2, none⟩ = some (.int .i64 p1) ∧ W.cell? ⟨mb, mo + k * 2 + 1, none⟩ = some (.int .i64 (xx : Int))) (first | exact ⟨x00, e1, e2⟩ | exact ⟨x05, e15, e25⟩)
                (first | (go_at_call 26; refine (l18Do_any (some ⟨pb, po, none⟩) ca xx A p1 _ (V4.out.later (bl_drew (Below.refl _ _))).ints' hxl (by omega)).mono ?_; rintro z w5 ⟨⟨g5, d5, rfl, hV5⟩, hb5⟩; have b5 : Below wr.heap.size wr w5 := bl_trans (bl_drew (Below.refl _ _)) hb5; have x05 := (K4.out.later b5).c0; have e15 : w5.cell? ⟨mb, mo + k * 2, none⟩ = some (.int .i64 p1) := (b5.cell (p := ⟨mb, mo + k * 2, none⟩) hmb).trans e1; have e25 : w5.cell? ⟨mb, mo + k * 2 + 1, none⟩ = some (.int .i64 (xx : Int)) := (b5.cell (p := ⟨mb, mo + k * 2 + 1, none⟩) hmb).trans e2))
              have hs4 := L4.out.size
              have K5 : Hid (Blk w5 xb #[.slice (some ⟨pb, po, none⟩) A.length ca, .int .i64 xf, .int .i64 xk, .int .i64 xt] 64) := K4.out.later b5
              have hV5' : VRow w5 w'.heap.size (.slice (some ⟨g5, 0, none⟩) A.length d5) (doM A (p1, (xx : Int))) := hV5.mono (by show w'.heap.size ≤ wr.heap.size; omega)
              have hdl : (doM A (p1, (xx : Int))).length = A.length := doM_len A _
              obtain ⟨A2, hA2⟩ : ∃ A2, Hid (doM A (p1, (xx : Int)) = A2) := ⟨_, rfl⟩
              rw [hA2.out] at hV5' hdl
              have V5 : Hid (VRow w5 w'.heap.size (.slice (some ⟨g5, 0, none⟩) A.length d5) A2) := hV5'
              have HDL : Hid (A2.length = A.length) := hdl
              have N5 : Hid (NRow w5 w'.heap.size (.slice so2 X2.length co2) X2) := N4.out.later b5
              have O5 : Hid (NOk w5 w'.heap.size X2 Q2) := O4.out.later b5
              have M5 : Hid (MRow w5 w'.heap.size (.slice (some ⟨mb, mo, none⟩) M.length cv) M) := M4.out.later b5
              have VA5 : Hid (VRow w5 w'.heap.size (.slice (some ⟨pb, po, none⟩) A.length ca) A) := V4.out.later b5
              have L5 : Hid (Below w'.heap.size w' w5) := bl_trans L4.out b5
              have hmb5 : mb < w5.heap.size := Nat.lt_of_lt_of_le hmb b5.size
              have HME : Hid (mb < w5.heap.size ∧ w5.cell? ⟨mb, mo + k * 2, none⟩ = some (.int .i64 p1) ∧ w5.cell? ⟨mb, mo + k * 2 + 1, none⟩ = some (.int .i64 (xx : Int))) := ⟨hmb5, e15, e25⟩
              clear hV5 hV5' hdl hb5 b5 N4 O4 M4 V4 K4 L4 e1 e2 hs4 hmb e15 e25 x00 x05 hmb5
              go_wp2_with fail
              go_loopw [20, 21] (fun tv jv wq => ∃ (j : Nat) (t : Bool), j ≤ X2.length ∧ jv = .int .i64 j ∧ tv = .bool t ∧ Hid (t = (Q2.take j).any (fun p => decide (p.1 = A2))) ∧ Hid (Below w5.heap.size w5 wq)) (fun _ jv _ => X2.length - (intOf jv).toNat)
              case atStart => exact ⟨0, false, Nat.zero_le _, rfl, rfl, by simp [Hid], Below.refl _ _⟩
              case round =>
                obtain ⟨j, t, hjX, rfl, rfl, ht, hbq⟩ := hrel
                by_cases hgo4 : j < X2.length ∧ t = false
                · obtain ⟨hjl, rfl⟩ := hgo4
                  obtain ⟨xn3, hxn3⟩ : ∃ xn, X2[j]? = some xn := ⟨X2[j], by simp [hjl]⟩
                  obtain ⟨q3, hq3⟩ : ∃ q, Q2[j]? = some q := ⟨Q2[j]'(by rw [← hlen2.out]; exact hjl), by simp⟩
                  obtain ⟨s3, c3, hx3, hV3⟩ := O5.out.row j xn3 q3 hxn3 hq3
                  obtain ⟨g3, c4, hv3, hg3, b0, b1, b2, b3⟩ := (N5.out.later hbq.out).get hxn3
                  simp only [Value.slice.injEq, true_and] at hv3
                  obtain ⟨rfl, rfl⟩ := hv3
                  rw [hx3] at b0
                  have hl3 : q3.1.length = A2.length := by rw [(hQ2.out.st q3 (List.mem_of_getElem? hq3)).2.1, HDL.out, HQL.out]
                  have hnx := any_take (A := A2) hq3
                  rw [← ht.out] at hnx
                  have hnx' : Hid (decide (q3.1 = A2) = (Q2.take (j + 1)).any (fun p => decide (p.1 = A2))) := by rw [hnx]; rfl
                  have I3 : Hid (Ints wr s3 q3.1) := (hV3.later hbq.out).ints'
                  have I5 : Hid (Ints wr (some ⟨g5, 0, none⟩) A2) := (V5.out.later hbq.out).ints'
                  have hl16 : q3.1.length ≤ 16 := by rw [hl3, HDL.out]; exact hA16
                  have HL3 : Hid (q3.1.length = A2.length) := hl3
                  obtain ⟨B3, hB3⟩ : ∃ B3, Hid (q3.1 = B3) := ⟨_, rfl⟩
                  rw [hB3.out] at b0 hnx' I3 hl16 HL3
                  have tj : decide ((j : Int) < (X2.length : Int)) = true := by simp; omega
                  have jI : (j : Int) < (X2.length : Int) := by omega
                  clear hx3 hV3 b1 b2 b3 hnx hl3
                  go_wp2_with fail
                  have hcall := l4Equal_any s3 (some ⟨g5, 0, none⟩) c3 d5 B3 A2 _ I3.out I5.out HL3.out (by omega)
                  rw [HDL.out] at hcall
                  refine hcall.mono ?_
                  rintro z w6 ⟨rfl, hb6⟩
                  have hb7 : Hid (Below w5.heap.size w5 w6) := bl_trans hbq.out hb6
                  go_wp2_with fail
                  go_roundw
                  case rel => exact ⟨j + 1, decide (B3 = A2), by omega, by go_num, rfl, hnx', hb7⟩
                  case measure => simp [intOf]; omega
                · have L6 : Hid (Below w'.heap.size w' wr) := bl_trans L5.out hbq.out
                  have N6 : Hid (NRow wr w'.heap.size (.slice so2 X2.length co2) X2) := N5.out.later hbq.out
                  have O6 : Hid (NOk wr w'.heap.size X2 Q2) := O5.out.later hbq.out
                  have M6 : Hid (MRow wr w'.heap.size (.slice (some ⟨mb, mo, none⟩) M.length cv) M) := M5.out.later hbq.out
                  have VA6 : Hid (VRow wr w'.heap.size (.slice (some ⟨pb, po, none⟩) A.length ca) A) := VA5.out.later hbq.out
                  have V6 : Hid (VRow wr w'.heap.size (.slice (some ⟨g5, 0, none⟩) A.length d5) A2) := V5.out.later hbq.out
                  have K6 : Hid (Blk wr xb #[.slice (some ⟨pb, po, none⟩) A.length ca, .int .i64 xf, .int .i64 xk, .int .i64 xt] 64) := K5.out.later hbq.out
                  have m1 : wr.cell? ⟨mb, mo + k * 2, none⟩ = some (.int .i64 p1) := (hbq.out.cell (p := ⟨mb, mo + k * 2, none⟩) HME.out.1).trans HME.out.2.1
                  have m2 : wr.cell? ⟨mb, mo + k * 2 + 1, none⟩ = some (.int .i64 (xx : Int)) := (hbq.out.cell (p := ⟨mb, mo + k * 2 + 1, none⟩) HME.out.1).trans HME.out.2.2
                  clear N5 O5 M5 VA5 V5 K5 L5 HME
                  cases t
                  · have hje : j = X2.length := by
                      have : ¬ j < X2.length := fun h => hgo4 ⟨h, rfl⟩
                      omega
                    subst hje
                    have tj : decide ((X2.length : Int) < (X2.length : Int)) = false := by simp
                    have hany : (Q2.any fun q => decide (q.1 = doM A (p1, (xx : Int)))) = false := by
                      have := ht.out
                      rw [hlen2.out, List.take_length] at this
                      rw [hA2.out]
                      exact this.symm
                    have hQ7 : Hid (addQ Q2 (A, R) (p1, (xx : Int)) = Q2 ++ [(A2, R ++ [(p1, (xx : Int))])]) := by
                      unfold addQ
                      rw [if_neg (by rw [hany]; simp), hA2.out]; rfl
                    have hmemQ : (A, R) ∈ Q2 := List.mem_of_getElem? hQi.out
                    have hok7 : Hid (QOk m (Q2 ++ [(A2, R ++ [(p1, (xx : Int))])])) := by
                      rw [← hQ7.out]; exact addQ_ok hQ2.out hmemQ HMem.out
                    have kn := Blk.new wr #[.slice (some ⟨g5, 0, none⟩) A.length d5, .int .i64 (i : Int), .int .i64 p1, .int .i64 (xx : Int)] 64
                    have KN : Hid (Blk (wr.alloc (.cells #[.slice (some ⟨g5, 0, none⟩) A.length d5, .int .i64 (i : Int), .int .i64 p1, .int .i64 (xx : Int)] 64)) wr.heap.size #[.slice (some ⟨g5, 0, none⟩) A.length d5, .int .i64 (i : Int), .int .i64 p1, .int .i64 (xx : Int)] 64) := kn
                    have al := bl_alloc (Below.refl _ wr) (.cells #[.slice (some ⟨g5, 0, none⟩) A.length d5, .int .i64 (i : Int), .int .i64 p1, .int .i64 (xx : Int)] 64)
                    have N7 : Hid (NRow (wr.alloc (.cells #[.slice (some ⟨g5, 0, none⟩) A.length d5, .int .i64 (i : Int), .int .i64 p1, .int .i64 (xx : Int)] 64)) w'.heap.size (.slice so2 X2.length co2) X2) := N6.out.later al
                    have O7 : Hid (NOk (wr.alloc (.cells #[.slice (some ⟨g5, 0, none⟩) A.length d5, .int .i64 (i : Int), .int .i64 p1, .int .i64 (xx : Int)] 64)) w'.heap.size X2 Q2) := O6.out.later al
                    have M7 : Hid (MRow (wr.alloc (.cells #[.slice (some ⟨g5, 0, none⟩) A.length d5, .int .i64 (i : Int), .int .i64 p1, .int .i64 (xx : Int)] 64)) w'.heap.size (.slice (some ⟨mb, mo, none⟩) M.length cv) M) := M6.out.later al
                    have VA7 : Hid (VRow (wr.alloc (.cells #[.slice (some ⟨g5, 0, none⟩) A.length d5, .int .i64 (i : Int), .int .i64 p1, .int .i64 (xx : Int)] 64)) w'.heap.size (.slice (some ⟨pb, po, none⟩) A.length ca) A) := VA6.out.later al
                    have V7 : Hid (VRow (wr.alloc (.cells #[.slice (some ⟨g5, 0, none⟩) A.length d5, .int .i64 (i : Int), .int .i64 p1, .int .i64 (xx : Int)] 64)) w'.heap.size (.slice (some ⟨g5, 0, none⟩) A.length d5) A2) := V6.out.later al
                    have K7 : Hid (Blk (wr.alloc (.cells #[.slice (some ⟨g5, 0, none⟩) A.length d5, .int .i64 (i : Int), .int .i64 p1, .int .i64 (xx : Int)] 64)) xb #[.slice (some ⟨pb, po, none⟩) A.length ca, .int .i64 xf, .int .i64 xk, .int .i64 xt] 64) := K6.out.later al
                    have L7 : Hid (Below w'.heap.size w' (wr.alloc (.cells #[.slice (some ⟨g5, 0, none⟩) A.length d5, .int .i64 (i : Int), .int .i64 p1, .int .i64 (xx : Int)] 64))) := bl_alloc L6.out _
                    have hs7 := L7.out.size
                    clear kn al N6 O6 M6 VA6 V6 K6 L6 hany
                    go_wp2_with (at_builtin; refine wpList_append_node _ rfl (.tmp 141) (.tmp 149) rfl w'.heap.size (.slice so2 X2.length co2) X2 rfl N7.out wr.heap.size (some ⟨g5, 0, none⟩) A.length d5 (i : Int) p1 (xx : Int) rfl KN.out (by omega) hs7 ?_)
                    intro v8 w8 hv8 hg8
                    obtain ⟨s8, c8, e⟩ := hv8.shape
                    subst e
                    have K8 : Blk w8 xb #[.slice (some ⟨pb, po, none⟩) A.length ca, .int .i64 xf, .int .i64 xk, .int .i64 xt] 64 := by
                      unfold Blk
                      rw [hg8.block xb K7.out.lt (fun e => hXB2.out e.symm)]
                      exact K7.out
                    have L8 : Hid (Below w'.heap.size w' w8) := grown_nr L7.out hs7 N7.out hg8
                    have M8 : Hid (MRow w8 w'.heap.size (.slice (some ⟨mb, mo, none⟩) M.length cv) M) := M7.out.keptN N7.out hg8
                    have VA8 : Hid (VRow w8 w'.heap.size (.slice (some ⟨pb, po, none⟩) A.length ca) A) := VA7.out.keptN N7.out hg8
                    have V8 : VRow w8 w'.heap.size (.slice (some ⟨g5, 0, none⟩) A.length d5) A2 := V7.out.keptN N7.out hg8
                    have O8 : Hid (NOk w8 w'.heap.size (X2 ++ [(Value.slice (some ⟨g5, 0, none⟩) A.length d5, (i : Int), p1, (xx : Int))]) (Q2 ++ [(A2, R ++ [(p1, (xx : Int))])])) := by
                      have V9 : VRow w8 w'.heap.size (.slice (some ⟨g5, 0, none⟩) A2.length d5) A2 := by rw [HDL.out]; exact V8
                      have := (O7.out.grown N7.out hg8).snoc V9 (by rw [← hlen2.out]; exact hiX2) hQi.out p1 (xx : Int)
                      rw [HDL.out] at this
                      exact this
                    have N8 : Hid (NRow w8 w'.heap.size (.slice s8 (X2 ++ [(Value.slice (some ⟨g5, 0, none⟩) A.length d5, (i : Int), p1, (xx : Int))]).length c8) (X2 ++ [(Value.slice (some ⟨g5, 0, none⟩) A.length d5, (i : Int), p1, (xx : Int))])) := hv8
                    have hXB8 : Hid (¬ (Value.slice s8 (X2 ++ [(Value.slice (some ⟨g5, 0, none⟩) A.length d5, (i : Int), p1, (xx : Int))]).length c8).ownBlock = some xb) := N8.out.ne_box K8 (by simp; omega)
                    have K8' : Hid (Blk w8 xb #[.slice (some ⟨pb, po, none⟩) A.length ca, .int .i64 xf, .int .i64 xk, .int .i64 xt] 64) := K8
                    have hQ8 : Hid (Q2 ++ [(A2, R ++ [(p1, (xx : Int))])] = expQ Q (A, R) (M.take (k + 1))) := by rw [hQn.out, hQ7.out]; rfl
                    have hQi8 : Hid ((Q2 ++ [(A2, R ++ [(p1, (xx : Int))])])[i]? = some (A, R)) := by
                      show _ = _
                      rw [List.getElem?_append_left (List.getElem?_eq_some_iff.1 hQi.out).1]; exact hQi.out
                    have hi8 : i < (X2 ++ [(Value.slice (some ⟨g5, 0, none⟩) A.length d5, (i : Int), p1, (xx : Int))]).length := by simp; omega
                    clear hv8 hg8 V8 K8 N7 O7 M7 VA7 V7 K7 L7 KN m1 m2 hQ7 hQi hQn hXB2
                    go_wp2_with fail
                    go_roundw
                    case rel => exact ⟨k + 1, s8, c8, _, _, by omega, by go_num, rfl, hi8, hXB8, N8, O8, hQ8, hok7, hQi8, M8, VA8, K8', L8⟩
                    case measure => simp [intOf]; omega
                  · have hany : (Q2.any fun q => decide (q.1 = doM A (p1, (xx : Int)))) = true := by
                      have := ht.out
                      rw [hA2.out]
                      have h2 := List.any_eq_true.1 this.symm
                      obtain ⟨q, hq1, hq2⟩ := h2
                      exact List.any_eq_true.2 ⟨q, List.mem_of_mem_take hq1, hq2⟩
                    have hQ7 : Hid (Q2 = expQ Q (A, R) (M.take (k + 1))) := by
                      rw [hQn.out]; unfold addQ; rw [if_pos hany]; rfl
                    by_cases hjl : j < X2.length
                    · have tj : decide ((j : Int) < (X2.length : Int)) = true := by simp; omega
                      go_wp2_with fail
                      go_roundw
                      case rel => exact ⟨k + 1, so2, co2, X2, Q2, by omega, by go_num, rfl, hiX2, hXB2, N6, O6, hQ7, hQ2, hQi, M6, VA6, K6, L6⟩
                      case measure => simp [intOf]; omega
                    · have tj : decide ((j : Int) < (X2.length : Int)) = false := by simp; omega
                      go_wp2_with fail
                      go_roundw
                      case rel => exact ⟨k + 1, so2, co2, X2, Q2, by omega, by go_num, rfl, hiX2, hXB2, N6, O6, hQ7, hQ2, hQi, M6, VA6, K6, L6⟩
                      case measure => simp [intOf]; omega
            · have hk' : k = M.length := by omega
              subst hk'
              have tk : decide ((M.length : Int) < (M.length : Int)) = false := by simp
              have hQe' : Hid (bfs L wk x y 1000 [(List.replicate m 0, [])] 0 = bfs L wk x y (1000 - (i + 1)) Q2 (i + 1)) := by
                rw [hgo.out, hQe.out, List.take_length]; rfl
              go_wp2_with fail
              go_roundw
              case rel => exact ⟨i + 1, so2, co2, X2, Q2, by omega, by go_num, rfl, N4, O4, hQ2, hQe', L4⟩
              case measure => simp [intOf]; omega
    · have hfin : Hid (meB m L wk x y = none) := by
        rw [HA.out, hR.out]; exact bfs_none (by rw [← hlenH.out]; omega)
      have t0 : decide ((i : Int) < (X.length : Int)) = false := by simp; omega
      go_wp2_with fail
      refine bodyPost_ret (v := .tuple #[.slice none 0 0, .bool false]) (by simp [results, Tryd.results8]) rfl ?_
      rw [hfin.out]; exact PlS.none hb.out
end Go.Proofs.YtigllpegaljkmaaDoor
