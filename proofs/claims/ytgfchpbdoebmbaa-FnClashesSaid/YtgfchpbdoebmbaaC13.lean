import Derived.Test.YtgfchpbdoebmbaaBh
namespace Go.Proofs.Ytgfchpbdoebmbaa
open Go.RowKit
set_option linter.unusedVariables false
set_option linter.unusedSimpArgs false

theorem l1PickInt_any (n : Nat) (pb po c : Nat) (L : List Int) (w : World) (hC : Cur n w) (hL : Ints w (some ⟨pb, po, none⟩) L) (h0 : 0 < L.length) (hl : L.length ≤ 1048576) (hp : ¬ pb = n) :
    Calls Try.prog 40 #[.pointer (some ⟨n, 0, none⟩), .slice (some ⟨pb, po, none⟩) L.length c] w fun e w' => ∃ r : Int, e = .returned (.int .i64 r) ∧ r ∈ L ∧ Keep n w w' ∧ Cur n w' := by
  have hcell : ∀ j, j < L.length → w.cell? ⟨pb, po + j, none⟩ = some (.int .i64 (L[j]?.getD 0)) := by
    rcases hL with h | ⟨pb', po', h, _, hc⟩
    · rw [h] at h0; simp at h0
    · simp only [Option.some.injEq, Addr.mk.injEq, and_true] at h
      obtain ⟨rfl, rfl⟩ := h
      exact hc
  go_enter Try.func40, Try.ntmps40
  go_wp2_with (go_at_call 50; refine (l1Below_any n (L.length : Int) _ hC (by omega)).mono ?_; rintro e w1 ⟨r, rfl, r1, r2, hK, hC1⟩; obtain ⟨q, rfl⟩ : ∃ q : Nat, r = (q : Int) := ⟨r.toNat, by omega⟩; have hq : q < L.length := (by omega); have hc1 := hK.cell hp (hcell q hq); have hqI : (q : Int) < (L.length : Int) := (by omega); clear hcell r2)
  go_ret
  exact ⟨_, rfl, by first | exact getD_mem hq | exact List.getElem_mem hq, hK, hC1⟩


theorem OE.inE2 {w : World} {B : Nat} {p0 p1 p2 p3 p4 p5 p6 p7 : Option Addr} {n0 n1 n2 n3 n4 n5 n6 n7 : Nat} {J : Ef} (h : OE w B p0 p1 p2 p3 p4 p5 p6 p7 n0 n1 n2 n3 n4 n5 n6 n7 J) : InE w B p0 p1 p2 p3 p4 p5 p6 p7 J := ⟨h.o0.els, h.o1.els, h.o2.els, h.o3.els, h.o4.els, h.o5.els, h.o6.els, h.o7.els⟩
theorem ints_seven {w : World} {b : Nat} (h : Blk w b #[.int .i64 (5), .int .i64 (5), .int .i64 (5), .int .i64 (0), .int .i64 (-1), .int .i64 (12), .int .i64 (13)] 3) : Ints w (some ⟨b, 0, none⟩) [5, 5, 5, 0, -1, 12, 13] := by
  refine Or.inr ⟨b, 0, rfl, h.lt, fun j hj => ?_⟩
  have hj : j < 7 := hj
  match j, hj with
  | 0, _ => exact h.cell 0
  | 1, _ => exact h.cell 1
  | 2, _ => exact h.cell 2
  | 3, _ => exact h.cell 3
  | 4, _ => exact h.cell 4
  | 5, _ => exact h.cell 5
  | 6, _ => exact h.cell 6
set_option maxRecDepth 100000 in
set_option maxHeartbeats 8000000 in
theorem drawStrictly_any (sl : Option Addr) (len cap : Nat) (w : World) (hl : len ≤ 1048576) (hc : Code w sl len) :
    Calls Try.prog 21 #[.slice sl len cap] w fun e w' => (∃ (p0 p1 p2 p3 p4 p5 p6 p7 : Option Addr) (n0 n1 n2 n3 n4 n5 n6 n7 : Nat) (A : Ef) (r0 r1 r2 r3 r4 r5 r6 r7 : Option Addr) (m0 m1 m2 m3 m4 m5 m6 m7 : Nat) (Bf : Ef) (k : Int), e = .returned (.tuple #[.agg #[.slice p0 A.l0.length n0, .slice p1 A.l1.length n1, .slice p2 A.l2.length n2, .slice p3 A.l3.length n3, .slice p4 A.l4.length n4, .slice p5 A.l5.length n5, .slice p6 A.l6.length n6, .slice p7 A.l7.length n7, .bool A.sp, .bool A.kl], .agg #[.slice r0 Bf.l0.length m0, .slice r1 Bf.l1.length m1, .slice r2 Bf.l2.length m2, .slice r3 Bf.l3.length m3, .slice r4 Bf.l4.length m4, .slice r5 Bf.l5.length m5, .slice r6 Bf.l6.length m6, .slice r7 Bf.l7.length m7, .bool Bf.sp, .bool Bf.kl], .int .i64 k]) ∧ InE w' 0 p0 p1 p2 p3 p4 p5 p6 p7 A ∧ InE w' 0 r0 r1 r2 r3 r4 r5 r6 r7 Bf ∧ sEf A ∧ sEf Bf ∧ (A.l0.length ≤ n0 ∧ A.l1.length ≤ n1 ∧ A.l2.length ≤ n2 ∧ A.l3.length ≤ n3 ∧ A.l4.length ≤ n4 ∧ A.l5.length ≤ n5 ∧ A.l6.length ≤ n6 ∧ A.l7.length ≤ n7) ∧ (Bf.l0.length ≤ m0 ∧ Bf.l1.length ≤ m1 ∧ Bf.l2.length ≤ m2 ∧ Bf.l3.length ≤ m3 ∧ Bf.l4.length ≤ m4 ∧ Bf.l5.length ≤ m5 ∧ Bf.l6.length ≤ m6 ∧ Bf.l7.length ≤ m7)) ∧ Below w.heap.size w w' := by
  obtain ⟨K2, K3, L0⟩ := blkTwoE w #[.slice none 0 0, .slice none 0 0, .slice none 0 0, .slice none 0 0, .slice none 0 0, .slice none 0 0, .slice none 0 0, .slice none 0 0, .bool false, .bool false] #[.slice none 0 0, .slice none 0 0, .slice none 0 0, .slice none 0 0, .slice none 0 0, .slice none 0 0, .slice none 0 0, .slice none 0 0, .bool false, .bool false] 28 28
  have hc2 : Hid (Code ((w.alloc (.cells #[.slice none 0 0, .slice none 0 0, .slice none 0 0, .slice none 0 0, .slice none 0 0, .slice none 0 0, .slice none 0 0, .slice none 0 0, .bool false, .bool false] 28)).alloc (.cells #[.slice none 0 0, .slice none 0 0, .slice none 0 0, .slice none 0 0, .slice none 0 0, .slice none 0 0, .slice none 0 0, .slice none 0 0, .bool false, .bool false] 28)) sl len) := (hc.alloc _).alloc _
  have K2 := Hid.mk' K2
  have K3 := Hid.mk' K3
  clear hc
  go_enter Try.func21, Try.ntmps21
  go_wp2_with fail
  generalize hX : (w.alloc (.cells #[.slice none 0 0, .slice none 0 0, .slice none 0 0, .slice none 0 0, .slice none 0 0, .slice none 0 0, .slice none 0 0, .slice none 0 0, .bool false, .bool false] 28)).alloc (.cells #[.slice none 0 0, .slice none 0 0, .slice none 0 0, .slice none 0 0, .slice none 0 0, .slice none 0 0, .slice none 0 0, .slice none 0 0, .bool false, .bool false] 28) = X at K2 K3 L0 hc2 ⊢
  clear hX
  refine (l1New_any sl len cap _ hl hc2.out).mono ?_
  rintro e w1 ⟨n, rfl, hn, hb1, hC1⟩
  have ltX := K3.out.lt
  have K2 : Hid (Blk w1 w.heap.size #[.slice none 0 0, .slice none 0 0, .slice none 0 0, .slice none 0 0, .slice none 0 0, .slice none 0 0, .slice none 0 0, .slice none 0 0, .bool false, .bool false] 28) := K2.out.later hb1
  have K3 : Hid (Blk w1 (w.heap.size + 1) #[.slice none 0 0, .slice none 0 0, .slice none 0 0, .slice none 0 0, .slice none 0 0, .slice none 0 0, .slice none 0 0, .slice none 0 0, .bool false, .bool false] 28) := K3.out.later hb1
  have L1 := Hid.mk' (bl_trans L0 hb1)
  clear hb1 L0 hc2
  go_wp2_with fail
  refine (l10Effect_any n _ hC1).mono ?_
  rintro e w2 ⟨p0, p1, p2, p3, p4, p5, p6, p7, n0, n1, n2, n3, n4, n5, n6, n7, A, rfl, hA, sA, hK, hC2⟩
  have IA := hA.inE2
  have CA := Hid.mk' hA.caps
  have lt1 := hC1.lt
  have KA := Blk.new w2 #[.slice p0 A.l0.length n0, .slice p1 A.l1.length n1, .slice p2 A.l2.length n2, .slice p3 A.l3.length n3, .slice p4 A.l4.length n4, .slice p5 A.l5.length n5, .slice p6 A.l6.length n6, .slice p7 A.l7.length n7, .bool A.sp, .bool A.kl] 28
  have hg : Below w2.heap.size w2 (w2.alloc (.cells #[.slice p0 A.l0.length n0, .slice p1 A.l1.length n1, .slice p2 A.l2.length n2, .slice p3 A.l3.length n3, .slice p4 A.l4.length n4, .slice p5 A.l5.length n5, .slice p6 A.l6.length n6, .slice p7 A.l7.length n7, .bool A.sp, .bool A.kl] 28)) := bl_alloc (Below.refl _ _) _
  have K2 := Hid.mk' ((K2.out.keep hK (by omega)).later hg)
  have K3 := Hid.mk' ((K3.out.keep hK (by omega)).later hg)
  have L2 : Hid (Below w.heap.size w (w2.alloc (.cells #[.slice p0 A.l0.length n0, .slice p1 A.l1.length n1, .slice p2 A.l2.length n2, .slice p3 A.l3.length n3, .slice p4 A.l4.length n4, .slice p5 A.l5.length n5, .slice p6 A.l6.length n6, .slice p7 A.l7.length n7, .bool A.sp, .bool A.kl] 28))) := bl_trans (L1.out.trans (hK.1.mono (by omega))) hg
  have C2 : Hid (Cur n (w2.alloc (.cells #[.slice p0 A.l0.length n0, .slice p1 A.l1.length n1, .slice p2 A.l2.length n2, .slice p3 A.l3.length n3, .slice p4 A.l4.length n4, .slice p5 A.l5.length n5, .slice p6 A.l6.length n6, .slice p7 A.l7.length n7, .bool A.sp, .bool A.kl] 28))) := hC2.alloc _
  have IA := Hid.mk' (IA.later hg)
  have na : Hid (n < w2.heap.size) := hC2.lt
  have KA := Hid.mk' KA
  have SA := Hid.mk' sA
  clear hg hK hC2 hC1 hA sA L1
  go_wp2_with fail
  generalize hX : w2.alloc (.cells #[.slice p0 A.l0.length n0, .slice p1 A.l1.length n1, .slice p2 A.l2.length n2, .slice p3 A.l3.length n3, .slice p4 A.l4.length n4, .slice p5 A.l5.length n5, .slice p6 A.l6.length n6, .slice p7 A.l7.length n7, .bool A.sp, .bool A.kl] 28) = Y at K2 K3 L2 C2 IA KA ⊢
  clear hX
  generalize hka : w2.heap.size = ka at KA na ⊢
  clear hka
  refine (l10Effect_any n _ C2.out).mono ?_
  rintro e w3 ⟨r0, r1, r2, r3, r4, r5, r6, r7, m0, m1, m2, m3, m4, m5, m6, m7, Bf, rfl, hB, sB, hK, hC3⟩
  have IB := hB.inE2
  have CB := Hid.mk' hB.caps
  have ltY := C2.out.lt
  have lka : Hid (ka < Y.heap.size) := KA.out.lt
  have KB := Blk.new w3 #[.slice r0 Bf.l0.length m0, .slice r1 Bf.l1.length m1, .slice r2 Bf.l2.length m2, .slice r3 Bf.l3.length m3, .slice r4 Bf.l4.length m4, .slice r5 Bf.l5.length m5, .slice r6 Bf.l6.length m6, .slice r7 Bf.l7.length m7, .bool Bf.sp, .bool Bf.kl] 28
  have hg : Below w3.heap.size w3 (w3.alloc (.cells #[.slice r0 Bf.l0.length m0, .slice r1 Bf.l1.length m1, .slice r2 Bf.l2.length m2, .slice r3 Bf.l3.length m3, .slice r4 Bf.l4.length m4, .slice r5 Bf.l5.length m5, .slice r6 Bf.l6.length m6, .slice r7 Bf.l7.length m7, .bool Bf.sp, .bool Bf.kl] 28)) := bl_alloc (Below.refl _ _) _
  have K2 := Hid.mk' ((K2.out.keep hK (by omega)).later hg)
  have K3 := Hid.mk' ((K3.out.keep hK (by omega)).later hg)
  have KA := Hid.mk' ((KA.out.keep hK (by have := na.out; omega)).later hg)
  have IA := Hid.mk' ((IA.out.keep hK (by omega)).later hg)
  have L2 : Hid (Below w.heap.size w (w3.alloc (.cells #[.slice r0 Bf.l0.length m0, .slice r1 Bf.l1.length m1, .slice r2 Bf.l2.length m2, .slice r3 Bf.l3.length m3, .slice r4 Bf.l4.length m4, .slice r5 Bf.l5.length m5, .slice r6 Bf.l6.length m6, .slice r7 Bf.l7.length m7, .bool Bf.sp, .bool Bf.kl] 28))) := bl_trans (L2.out.trans (hK.1.mono (by omega))) hg
  have C3 : Hid (Cur n (w3.alloc (.cells #[.slice r0 Bf.l0.length m0, .slice r1 Bf.l1.length m1, .slice r2 Bf.l2.length m2, .slice r3 Bf.l3.length m3, .slice r4 Bf.l4.length m4, .slice r5 Bf.l5.length m5, .slice r6 Bf.l6.length m6, .slice r7 Bf.l7.length m7, .bool Bf.sp, .bool Bf.kl] 28))) := hC3.alloc _
  have IB := Hid.mk' (IB.later hg)
  have nb : Hid (n < w3.heap.size) := hC3.lt
  have KB := Hid.mk' KB
  have SB := Hid.mk' sB
  clear hg hK hC3 hB sB C2
  go_wp2_with fail
  generalize hX : w3.alloc (.cells #[.slice r0 Bf.l0.length m0, .slice r1 Bf.l1.length m1, .slice r2 Bf.l2.length m2, .slice r3 Bf.l3.length m3, .slice r4 Bf.l4.length m4, .slice r5 Bf.l5.length m5, .slice r6 Bf.l6.length m6, .slice r7 Bf.l7.length m7, .bool Bf.sp, .bool Bf.kl] 28) = V at K2 K3 L2 C3 IA KA IB KB ⊢
  clear hX
  generalize hkb : w3.heap.size = kb at KB nb ⊢
  clear hkb
  have lY : w.heap.size + 1 < Y.heap.size := by omega
  have lA := KA.out.lt
  have lB := KB.out.lt
  refine wp_region_held_drew (S := fun w' => Blk w' ka #[.slice p0 A.l0.length n0, .slice p1 A.l1.length n1, .slice p2 A.l2.length n2, .slice p3 A.l3.length n3, .slice p4 A.l4.length n4, .slice p5 A.l5.length n5, .slice p6 A.l6.length n6, .slice p7 A.l7.length n7, .bool A.sp, .bool A.kl] 28 ∧ Blk w' kb #[.slice r0 Bf.l0.length m0, .slice r1 Bf.l1.length m1, .slice r2 Bf.l2.length m2, .slice r3 Bf.l3.length m3, .slice r4 Bf.l4.length m4, .slice r5 Bf.l5.length m5, .slice r6 Bf.l6.length m6, .slice r7 Bf.l7.length m7, .bool Bf.sp, .bool Bf.kl] 28) (by kernel_rfl) ?_ (fun hHeld => ?_)
  · exact ⟨KA.out, KB.out⟩
  refine wpAnyH_one (i := 0) (d := 14) (v := ?_) rfl rfl (by kernel_rfl) (by kernel_rfl) (by kernel_rfl) (fun _ _ _ h => h) (by rfl) (by assumption) ?_ ?_
  rotate_left 1
  · intro w hSw; (try dsimp only at hSw); obtain ⟨x0, x1, x2, x3, x4, x5, x6, x7, x8, x9, xf⟩ := hSw.1.ten; go_simp <;> with_reducible rfl
  simp only [List.foldl, Act.put, List.setIfInBounds_toArray, List.set_cons_zero, List.set_cons_succ]
  refine wpAnyH_one (i := 1) (d := 15) (v := ?_) rfl rfl (by kernel_rfl) (by kernel_rfl) (by kernel_rfl) (fun _ _ _ h => h) (by rfl) (by assumption) ?_ ?_
  rotate_left 1
  · intro w hSw; (try dsimp only at hSw); obtain ⟨x0, x1, x2, x3, x4, x5, x6, x7, x8, x9, xf⟩ := hSw.2.ten; go_simp <;> with_reducible rfl
  simp only [List.foldl, Act.put, List.setIfInBounds_toArray, List.set_cons_zero, List.set_cons_succ]
  refine wpAnyH_one (i := 2) (d := 16) (v := ?_) rfl rfl (by kernel_rfl) (by kernel_rfl) (by kernel_rfl) (fun _ _ _ h => h) (by rfl) (by assumption) ?_ ?_
  rotate_left 1
  · intro w hSw; (try dsimp only at hSw); go_simp <;> with_reducible rfl
  simp only [List.foldl, Act.put, List.setIfInBounds_toArray, List.set_cons_zero, List.set_cons_succ]
  refine wpAnyH_ready (rs := [3]) (by kernel_rfl) (by simp) ?_
  refine AllReadyH.cons rfl (fun K hK => ?_) AllReadyH.nil
  go_simp
  have bD : Below V.heap.size V V.drew := bl_drew (Below.refl _ _)
  have bI : Below V.heap.size V ((V.alloc (.cells #[.int .i64 (5), .int .i64 (5), .int .i64 (5), .int .i64 (0), .int .i64 (-1), .int .i64 (12), .int .i64 (13)] 3)).drew) := bl_drew (bl_alloc (Below.refl _ _) _)
  have KI := Hid.mk' (show Blk ((V.alloc (.cells #[.int .i64 (5), .int .i64 (5), .int .i64 (5), .int .i64 (0), .int .i64 (-1), .int .i64 (12), .int .i64 (13)] 3)).drew) V.heap.size #[.int .i64 (5), .int .i64 (5), .int .i64 (5), .int .i64 (0), .int .i64 (-1), .int .i64 (12), .int .i64 (13)] 3 from (Blk.new V _ _).later (bl_drew (Below.refl _ _)))
  have KA := Hid.mk' (KA.out.later bI)
  have KB := Hid.mk' (KB.out.later bI)
  have K2 := Hid.mk' (K2.out.later bI)
  have K3 := Hid.mk' (K3.out.later bI)
  have IA := Hid.mk' (IA.out.later bI)
  have IB := Hid.mk' (IB.out.later bI)
  have L2 := Hid.mk' (bl_trans L2.out bI)
  have C3 : Hid (Cur n ((V.alloc (.cells #[.int .i64 (5), .int .i64 (5), .int .i64 (5), .int .i64 (0), .int .i64 (-1), .int .i64 (12), .int .i64 (13)] 3)).drew)) := (C3.out.alloc _).drew
  refine hK.out _ _ ?_ (fun hHeld => ?_)
  · exact ⟨KA.out, KB.out⟩
  clear hK K bD bI
  try simp only [List.foldl, Act.put, List.setIfInBounds_toArray, List.set_cons_zero, List.set_cons_succ]
  generalize hGe : (V.alloc (.cells #[.int .i64 (5), .int .i64 (5), .int .i64 (5), .int .i64 (0), .int .i64 (-1), .int .i64 (12), .int .i64 (13)] 3)).drew = g0 at K2 K3 KA KB KI IA IB L2 C3 hHeld ⊢
  clear hGe
  refine wpAnyH_ready (rs := [4]) (by kernel_rfl) (by simp) ?_
  refine AllReadyH.cons rfl (fun K hK => ?_) AllReadyH.nil
  go_simp
  have nI : Hid (n < V.heap.size) := by have := nb.out; show _ < _; omega
  refine (l1PickInt_any n V.heap.size 0 7 [5, 5, 5, 0, -1, 12, 13] g0 C3.out (ints_seven KI.out) (by decide) (by decide) (by have := nI.out; omega)).mono ?_
  rintro z g1 ⟨k, rfl, hk, hK2, hC4⟩
  have KA := Hid.mk' (KA.out.keep hK2 (by have := na.out; omega))
  have KB := Hid.mk' (KB.out.keep hK2 (by have := nb.out; omega))
  have K2 := Hid.mk' (K2.out.keep hK2 (by omega))
  have K3 := Hid.mk' (K3.out.keep hK2 (by omega))
  have IA := Hid.mk' (IA.out.keep hK2 (by omega))
  have IB := Hid.mk' (IB.out.keep hK2 (by omega))
  have L3 : Hid (Below w.heap.size w g1) := L2.out.trans (hK2.1.mono (by omega))
  clear hK2 hC4 hk
  refine hK.out _ _ ?_ (fun hHeld => ?_)
  · exact ⟨KA.out, KB.out⟩
  clear hK K
  try simp only [List.foldl, Act.put, List.setIfInBounds_toArray, List.set_cons_zero, List.set_cons_succ]
  refine wpAnyH_ready (rs := [5]) (by kernel_rfl) (by simp) ?_
  refine AllReadyH.cons rfl (fun K hK => ?_) AllReadyH.nil
  refine wp_store_row 28 (.tmp 2) (.tmp 14) rfl (w.heap.size) #[.slice p0 A.l0.length n0, .slice p1 A.l1.length n1, .slice p2 A.l2.length n2, .slice p3 A.l3.length n3, .slice p4 A.l4.length n4, .slice p5 A.l5.length n5, .slice p6 A.l6.length n6, .slice p7 A.l7.length n7, .bool A.sp, .bool A.kl] rfl rfl 28 _ K2.out (by rw [Try.infoEf]; rfl) rfl one10 ?_
  have K2 := Hid.mk' (show Blk (g1.setRow (w.heap.size) #[.slice p0 A.l0.length n0, .slice p1 A.l1.length n1, .slice p2 A.l2.length n2, .slice p3 A.l3.length n3, .slice p4 A.l4.length n4, .slice p5 A.l5.length n5, .slice p6 A.l6.length n6, .slice p7 A.l7.length n7, .bool A.sp, .bool A.kl]) (w.heap.size) #[.slice p0 A.l0.length n0, .slice p1 A.l1.length n1, .slice p2 A.l2.length n2, .slice p3 A.l3.length n3, .slice p4 A.l4.length n4, .slice p5 A.l5.length n5, .slice p6 A.l6.length n6, .slice p7 A.l7.length n7, .bool A.sp, .bool A.kl] 28 from setRow_heap _ _ _ _ _ _ K2.out)
  have K3 := Hid.mk' (show Blk (g1.setRow (w.heap.size) #[.slice p0 A.l0.length n0, .slice p1 A.l1.length n1, .slice p2 A.l2.length n2, .slice p3 A.l3.length n3, .slice p4 A.l4.length n4, .slice p5 A.l5.length n5, .slice p6 A.l6.length n6, .slice p7 A.l7.length n7, .bool A.sp, .bool A.kl]) (w.heap.size + 1) #[.slice none 0 0, .slice none 0 0, .slice none 0 0, .slice none 0 0, .slice none 0 0, .slice none 0 0, .slice none 0 0, .slice none 0 0, .bool false, .bool false] 28 from (setRow_other _ _ _ _ (by omega)).trans K3.out)
  have KA := Hid.mk' (show Blk (g1.setRow (w.heap.size) #[.slice p0 A.l0.length n0, .slice p1 A.l1.length n1, .slice p2 A.l2.length n2, .slice p3 A.l3.length n3, .slice p4 A.l4.length n4, .slice p5 A.l5.length n5, .slice p6 A.l6.length n6, .slice p7 A.l7.length n7, .bool A.sp, .bool A.kl]) ka #[.slice p0 A.l0.length n0, .slice p1 A.l1.length n1, .slice p2 A.l2.length n2, .slice p3 A.l3.length n3, .slice p4 A.l4.length n4, .slice p5 A.l5.length n5, .slice p6 A.l6.length n6, .slice p7 A.l7.length n7, .bool A.sp, .bool A.kl] 28 from (setRow_other _ _ _ _ (by have := na.out; omega)).trans KA.out)
  have KB := Hid.mk' (show Blk (g1.setRow (w.heap.size) #[.slice p0 A.l0.length n0, .slice p1 A.l1.length n1, .slice p2 A.l2.length n2, .slice p3 A.l3.length n3, .slice p4 A.l4.length n4, .slice p5 A.l5.length n5, .slice p6 A.l6.length n6, .slice p7 A.l7.length n7, .bool A.sp, .bool A.kl]) kb #[.slice r0 Bf.l0.length m0, .slice r1 Bf.l1.length m1, .slice r2 Bf.l2.length m2, .slice r3 Bf.l3.length m3, .slice r4 Bf.l4.length m4, .slice r5 Bf.l5.length m5, .slice r6 Bf.l6.length m6, .slice r7 Bf.l7.length m7, .bool Bf.sp, .bool Bf.kl] 28 from (setRow_other _ _ _ _ (by have := nb.out; omega)).trans KB.out)
  have IA := Hid.mk' (show InE (g1.setRow (w.heap.size) #[.slice p0 A.l0.length n0, .slice p1 A.l1.length n1, .slice p2 A.l2.length n2, .slice p3 A.l3.length n3, .slice p4 A.l4.length n4, .slice p5 A.l5.length n5, .slice p6 A.l6.length n6, .slice p7 A.l7.length n7, .bool A.sp, .bool A.kl]) (w1.heap.size) p0 p1 p2 p3 p4 p5 p6 p7 A from IA.out.kept ⟨by simp, fun k h1 h2 => setRow_other _ _ _ _ (by omega)⟩)
  have IB := Hid.mk' (show InE (g1.setRow (w.heap.size) #[.slice p0 A.l0.length n0, .slice p1 A.l1.length n1, .slice p2 A.l2.length n2, .slice p3 A.l3.length n3, .slice p4 A.l4.length n4, .slice p5 A.l5.length n5, .slice p6 A.l6.length n6, .slice p7 A.l7.length n7, .bool A.sp, .bool A.kl]) (Y.heap.size) r0 r1 r2 r3 r4 r5 r6 r7 Bf from IB.out.kept ⟨by simp, fun k h1 h2 => setRow_other _ _ _ _ (by omega)⟩)
  have L3 : Hid (Below w.heap.size w (g1.setRow (w.heap.size) #[.slice p0 A.l0.length n0, .slice p1 A.l1.length n1, .slice p2 A.l2.length n2, .slice p3 A.l3.length n3, .slice p4 A.l4.length n4, .slice p5 A.l5.length n5, .slice p6 A.l6.length n6, .slice p7 A.l7.length n7, .bool A.sp, .bool A.kl])) := below_setRow L3.out (by omega) _
  refine hK.out _ _ ?_ (fun hHeld => ?_)
  · exact ⟨KA.out, KB.out⟩
  clear hK K
  try simp only [List.foldl, Act.put, List.setIfInBounds_toArray, List.set_cons_zero, List.set_cons_succ]
  generalize hGe : (g1.setRow (w.heap.size) #[.slice p0 A.l0.length n0, .slice p1 A.l1.length n1, .slice p2 A.l2.length n2, .slice p3 A.l3.length n3, .slice p4 A.l4.length n4, .slice p5 A.l5.length n5, .slice p6 A.l6.length n6, .slice p7 A.l7.length n7, .bool A.sp, .bool A.kl]) = g2 at K2 K3 KA KB IA IB L3 hHeld ⊢
  clear hGe
  refine wpAnyH_ready (rs := [6]) (by kernel_rfl) (by simp) ?_
  refine AllReadyH.cons rfl (fun K hK => ?_) AllReadyH.nil
  refine wp_store_row 28 (.tmp 3) (.tmp 15) rfl (w.heap.size + 1) #[.slice r0 Bf.l0.length m0, .slice r1 Bf.l1.length m1, .slice r2 Bf.l2.length m2, .slice r3 Bf.l3.length m3, .slice r4 Bf.l4.length m4, .slice r5 Bf.l5.length m5, .slice r6 Bf.l6.length m6, .slice r7 Bf.l7.length m7, .bool Bf.sp, .bool Bf.kl] rfl rfl 28 _ K3.out (by rw [Try.infoEf]; rfl) rfl one10 ?_
  have K3 := Hid.mk' (show Blk (g2.setRow (w.heap.size + 1) #[.slice r0 Bf.l0.length m0, .slice r1 Bf.l1.length m1, .slice r2 Bf.l2.length m2, .slice r3 Bf.l3.length m3, .slice r4 Bf.l4.length m4, .slice r5 Bf.l5.length m5, .slice r6 Bf.l6.length m6, .slice r7 Bf.l7.length m7, .bool Bf.sp, .bool Bf.kl]) (w.heap.size + 1) #[.slice r0 Bf.l0.length m0, .slice r1 Bf.l1.length m1, .slice r2 Bf.l2.length m2, .slice r3 Bf.l3.length m3, .slice r4 Bf.l4.length m4, .slice r5 Bf.l5.length m5, .slice r6 Bf.l6.length m6, .slice r7 Bf.l7.length m7, .bool Bf.sp, .bool Bf.kl] 28 from setRow_heap _ _ _ _ _ _ K3.out)
  have K2 := Hid.mk' (show Blk (g2.setRow (w.heap.size + 1) #[.slice r0 Bf.l0.length m0, .slice r1 Bf.l1.length m1, .slice r2 Bf.l2.length m2, .slice r3 Bf.l3.length m3, .slice r4 Bf.l4.length m4, .slice r5 Bf.l5.length m5, .slice r6 Bf.l6.length m6, .slice r7 Bf.l7.length m7, .bool Bf.sp, .bool Bf.kl]) (w.heap.size) #[.slice p0 A.l0.length n0, .slice p1 A.l1.length n1, .slice p2 A.l2.length n2, .slice p3 A.l3.length n3, .slice p4 A.l4.length n4, .slice p5 A.l5.length n5, .slice p6 A.l6.length n6, .slice p7 A.l7.length n7, .bool A.sp, .bool A.kl] 28 from (setRow_other _ _ _ _ (by omega)).trans K2.out)
  have KA := Hid.mk' (show Blk (g2.setRow (w.heap.size + 1) #[.slice r0 Bf.l0.length m0, .slice r1 Bf.l1.length m1, .slice r2 Bf.l2.length m2, .slice r3 Bf.l3.length m3, .slice r4 Bf.l4.length m4, .slice r5 Bf.l5.length m5, .slice r6 Bf.l6.length m6, .slice r7 Bf.l7.length m7, .bool Bf.sp, .bool Bf.kl]) ka #[.slice p0 A.l0.length n0, .slice p1 A.l1.length n1, .slice p2 A.l2.length n2, .slice p3 A.l3.length n3, .slice p4 A.l4.length n4, .slice p5 A.l5.length n5, .slice p6 A.l6.length n6, .slice p7 A.l7.length n7, .bool A.sp, .bool A.kl] 28 from (setRow_other _ _ _ _ (by have := na.out; omega)).trans KA.out)
  have KB := Hid.mk' (show Blk (g2.setRow (w.heap.size + 1) #[.slice r0 Bf.l0.length m0, .slice r1 Bf.l1.length m1, .slice r2 Bf.l2.length m2, .slice r3 Bf.l3.length m3, .slice r4 Bf.l4.length m4, .slice r5 Bf.l5.length m5, .slice r6 Bf.l6.length m6, .slice r7 Bf.l7.length m7, .bool Bf.sp, .bool Bf.kl]) kb #[.slice r0 Bf.l0.length m0, .slice r1 Bf.l1.length m1, .slice r2 Bf.l2.length m2, .slice r3 Bf.l3.length m3, .slice r4 Bf.l4.length m4, .slice r5 Bf.l5.length m5, .slice r6 Bf.l6.length m6, .slice r7 Bf.l7.length m7, .bool Bf.sp, .bool Bf.kl] 28 from (setRow_other _ _ _ _ (by have := nb.out; omega)).trans KB.out)
  have IA := Hid.mk' (show InE (g2.setRow (w.heap.size + 1) #[.slice r0 Bf.l0.length m0, .slice r1 Bf.l1.length m1, .slice r2 Bf.l2.length m2, .slice r3 Bf.l3.length m3, .slice r4 Bf.l4.length m4, .slice r5 Bf.l5.length m5, .slice r6 Bf.l6.length m6, .slice r7 Bf.l7.length m7, .bool Bf.sp, .bool Bf.kl]) (w1.heap.size) p0 p1 p2 p3 p4 p5 p6 p7 A from IA.out.kept ⟨by simp, fun k h1 h2 => setRow_other _ _ _ _ (by omega)⟩)
  have IB := Hid.mk' (show InE (g2.setRow (w.heap.size + 1) #[.slice r0 Bf.l0.length m0, .slice r1 Bf.l1.length m1, .slice r2 Bf.l2.length m2, .slice r3 Bf.l3.length m3, .slice r4 Bf.l4.length m4, .slice r5 Bf.l5.length m5, .slice r6 Bf.l6.length m6, .slice r7 Bf.l7.length m7, .bool Bf.sp, .bool Bf.kl]) (Y.heap.size) r0 r1 r2 r3 r4 r5 r6 r7 Bf from IB.out.kept ⟨by simp, fun k h1 h2 => setRow_other _ _ _ _ (by omega)⟩)
  have L3 : Hid (Below w.heap.size w (g2.setRow (w.heap.size + 1) #[.slice r0 Bf.l0.length m0, .slice r1 Bf.l1.length m1, .slice r2 Bf.l2.length m2, .slice r3 Bf.l3.length m3, .slice r4 Bf.l4.length m4, .slice r5 Bf.l5.length m5, .slice r6 Bf.l6.length m6, .slice r7 Bf.l7.length m7, .bool Bf.sp, .bool Bf.kl])) := below_setRow L3.out (by omega) _
  refine hK.out _ _ ?_ (fun hHeld => ?_)
  · exact ⟨KA.out, KB.out⟩
  clear hK K
  try simp only [List.foldl, Act.put, List.setIfInBounds_toArray, List.set_cons_zero, List.set_cons_succ]
  generalize hGe : (g2.setRow (w.heap.size + 1) #[.slice r0 Bf.l0.length m0, .slice r1 Bf.l1.length m1, .slice r2 Bf.l2.length m2, .slice r3 Bf.l3.length m3, .slice r4 Bf.l4.length m4, .slice r5 Bf.l5.length m5, .slice r6 Bf.l6.length m6, .slice r7 Bf.l7.length m7, .bool Bf.sp, .bool Bf.kl]) = g3 at K2 K3 KA KB IA IB L3 hHeld ⊢
  clear hGe
  refine wpAnyH_one (i := 7) (d := 4) (v := ?_) rfl rfl (by kernel_rfl) (by kernel_rfl) (by kernel_rfl) (fun _ _ _ h => h) (by rfl) (by assumption) ?_ ?_
  rotate_left 1
  · intro w hSw; (try dsimp only at hSw); go_simp <;> with_reducible rfl
  simp only [List.foldl, Act.put, List.setIfInBounds_toArray, List.set_cons_zero, List.set_cons_succ]
  refine wpAnyH_done (by kernel_rfl) ?_ _
  go_wp2_with fail
  obtain ⟨x0, x1, x2, x3, x4, x5, x6, x7, x8, x9, xf⟩ := K2.out.ten
  obtain ⟨y0, y1, y2, y3, y4, y5, y6, y7, y8, y9, yf⟩ := K3.out.ten
  refine bodyPost_ret (v := .tuple #[.agg #[.slice p0 A.l0.length n0, .slice p1 A.l1.length n1, .slice p2 A.l2.length n2, .slice p3 A.l3.length n3, .slice p4 A.l4.length n4, .slice p5 A.l5.length n5, .slice p6 A.l6.length n6, .slice p7 A.l7.length n7, .bool A.sp, .bool A.kl], .agg #[.slice r0 Bf.l0.length m0, .slice r1 Bf.l1.length m1, .slice r2 Bf.l2.length m2, .slice r3 Bf.l3.length m3, .slice r4 Bf.l4.length m4, .slice r5 Bf.l5.length m5, .slice r6 Bf.l6.length m6, .slice r7 Bf.l7.length m7, .bool Bf.sp, .bool Bf.kl], .int .i64 k]) (by simp [results, Try.results21, go_sem, x0, x1, x2, x3, x4, x5, x6, x7, x8, x9, y0, y1, y2, y3, y4, y5, y6, y7, y8, y9]) rfl ⟨⟨p0, p1, p2, p3, p4, p5, p6, p7, n0, n1, n2, n3, n4, n5, n6, n7, A, r0, r1, r2, r3, r4, r5, r6, r7, m0, m1, m2, m3, m4, m5, m6, m7, Bf, ⟨k, rfl⟩, IA.out.drop (Nat.zero_le _), IB.out.drop (Nat.zero_le _), SA.out, SB.out, CA.out, CB.out⟩, L3.out⟩
end Go.Proofs.Ytgfchpbdoebmbaa
