import Derived.Test.YtmoohgafljepdaaDoorN33
import Derived.Test.YtmoohgafljepdaaDoorN45
namespace Go.Proofs.YtmoohgafljepdaaDoor
open Go.RowKit
set_option linter.unusedVariables false
set_option linter.unusedSimpArgs false

set_option maxHeartbeats 1000000 in
theorem szEdge_is (s : Option Addr) (n c : Nat) (w : World) (h : n ≤ 1048576) :
    Calls Tryd.prog 4 #[.slice s n c, .int .i64 1048576] w fun e w' => e = .returned (.int .i64 (1048576 - (n : Int))) ∧ w' = w := by
  go_enter Tryd.func4, Tryd.ntmps4
  go_wp2
  go_ret
  exact ⟨rfl, rfl⟩

theorem bfs_len {n : Nat} (hn : n ≤ 6) (L : List (Int × Int)) (wk : Int) (a b : Nat) : ∀ (f : Nat) (Q : List Way) (i : Nat), QOk n Q → ((bfs L wk a b f Q i).getD []).length ≤ 12
  | 0, Q, i, h => by simp [bfs]
  | f + 1, Q, i, h => by
    simp only [bfs]
    cases hq : Q[i]? with
    | none => simp
    | some q =>
      have hm : q ∈ Q := List.mem_of_getElem? hq
      simp only
      split
      · simpa using h.way hn hm
      · exact bfs_len hn L wk a b f _ _ (expQ_ok _ h hm (fun m hm => hm))
theorem meB_len (n : Int) (L : List (Int × Int)) (wk a b : Int) : ((meB n L wk a b).getD []).length ≤ 1048576 := by
  unfold meB
  split
  · rename_i h
    simp only [meOk, Bool.and_eq_true, decide_eq_true_eq] at h
    have := bfs_len (n := n.toNat) (by omega) L wk a.toNat b.toNat 1000 _ 0 (QOk.one n.toNat)
    omega
  · simp

set_option maxHeartbeats 8000000 in
theorem exactMeet_any (n : Int) (s : Option Addr) (c : Nat) (L : List (Int × Int)) (wk a b : Int) (w : World) (hL : Eds w s L) (m1 : L.length ≤ 9223372036854775807) (hT : DbT w) :
    Calls Tryd.prog 3 #[.int .i64 n, .slice s L.length c, .int .i64 wk, .int .i64 a, .int .i64 b] w fun e w' => e = .returned (.bool true) ∧ Below w.heap.size w w' := by
  have HL : Hid (Eds w s L) := hL
  have HT : Hid (DbT w) := hT
  clear hL hT
  by_cases hs : L.length ≤ 1048576
  · go_enter Tryd.func3, Tryd.ntmps3
    go_wp2_with fail
    refine (szEdge_is s L.length c _ hs).mono ?_
    rintro e w1 ⟨rfl, hq⟩
    subst hq
    have hr0 : (0 : Int) ≤ 1048576 - (L.length : Int) := by omega
    obtain ⟨r0, hr⟩ : ∃ r0, (1048576 : Int) - (L.length : Int) = r0 := ⟨_, rfl⟩
    rw [hr] at hr0 ⊢
    have tr0 : decide (r0 < 0) = false := by simp; omega
    clear hr hr0
    go_wp2_with fail
    refine (toEdgeS_any s c L _ HL.out hs).mono ?_
    rintro e w3 ⟨rfl, hR3, hb3⟩
    have l3 : Hid (Below w1.heap.size w1 w3) := hb3
    go_wp2_with fail
    refine (specMeet_any n wk a b _ _ L _ hR3.eds hs).mono ?_
    rintro e w4 ⟨vW, rfl, hW4, hb4⟩
    have l4 : Hid (Below w1.heap.size w1 w4) := bl_trans l3.out hb4
    have hrl : Hid (((meB n L wk a b).getD []).length ≤ 1048576) := meB_len n L wk a b
    obtain ⟨R, hRd⟩ : ∃ R, Hid ((meB n L wk a b).getD [] = R) := ⟨_, rfl⟩
    obtain ⟨F, hFd⟩ : ∃ F, Hid ((meB n L wk a b).isSome = F) := ⟨_, rfl⟩
    rw [hRd.out] at hW4 hrl
    rw [hFd.out]
    have hW4' : Hid (MRow w4 w3.heap.size vW R) := hW4
    have z3 : w1.heap.size ≤ w3.heap.size := l3.out.size
    have z4 : w3.heap.size ≤ w4.heap.size := hb4.size
    clear hR3 hb3 hb4 hW4 l3
    go_wp2_with fail
    refine (toEdgeS_any s c L _ (HL.out.later l4.out) hs).mono ?_
    rintro e w6 ⟨rfl, hR6, hb6⟩
    have l6 : Hid (Below w1.heap.size w1 w6) := bl_trans l4.out hb6
    go_wp2_with fail
    refine (implMeet_any n wk a b _ _ L _ hR6.eds hs (HT.out.later l6.out)).mono ?_
    rintro e w7 ⟨vG, rfl, hG7, hb7⟩
    rw [hRd.out] at hG7
    rw [hFd.out]
    have l7 : Hid (Below w1.heap.size w1 w7) := bl_trans l6.out hb7
    have hR7 : Hid (ERow w7 w4.heap.size (.slice (some ⟨w4.heap.size, 0, none⟩) L.length L.length) L) := hR6.later hb7
    have hW7 : Hid (MRow w7 w3.heap.size vW R) := (hW4'.out.later hb6).later hb7
    have hG7' : Hid (MRow w7 w6.heap.size vG R) := hG7
    have wb : Hid (∀ k, vW.ownBlock = some k → w3.heap.size ≤ k ∧ k < w4.heap.size) := hW4'.out.lt
    have gb : Hid (∀ k, vG.ownBlock = some k → w6.heap.size ≤ k) := fun k h => (hG7.lt k h).1
    have z14 : Hid (w1.heap.size ≤ w3.heap.size ∧ w3.heap.size ≤ w4.heap.size ∧ w4.heap.size < w6.heap.size) := ⟨z3, z4, (hR6.lt w4.heap.size rfl).2⟩
    clear hR6 hb6 hb7 hG7 hW4' l4 l6 z3 z4
    have tF : (F != F) = false := by simp
    have lR := hrl.out
    go_wp2_with fail
    refine (eqMoveS_any vG vW R _ hG7'.out.list hW7.out.list lR).mono ?_
    rintro e w8 ⟨rfl, hb8⟩
    have l8 : Hid (Below w1.heap.size w1 w8) := bl_trans l7.out hb8
    go_wp2_with fail
    refine (toEdgeS_any s c L _ (HL.out.later l8.out) hs).mono ?_
    rintro e w9 ⟨rfl, hR9, hb9⟩
    go_wp2_with fail
    refine (eqEdgeS_any _ _ L _ ((hR7.out.later hb8).later hb9).list hR9.list hs).mono ?_
    rintro e w12 ⟨rfl, hb12⟩
    have b712 : Below w7.heap.size w7 w12 := bl_trans (bl_trans hb8 hb9) hb12
    have l12 : Hid (Below w1.heap.size w1 w12) := bl_trans l7.out b712
    have hR12 := hR7.out.later b712
    have hW12 : Hid (MRow w12 w3.heap.size vW R) := hW7.out.later b712
    have hG12 : Hid (MRow w12 w6.heap.size vG R) := hG7'.out.later b712
    clear hb8 l8 hR9 hb9 hb12 hR7 hW7 hG7' l7 b712
    go_wp2_with fail
    refine (markEdgeS_all _ _ L _ hR12 hs).mono ?_
    rintro e w14 ⟨rfl, hR14, hg14⟩
    have hg14 : w12.grownBy w14 (some w4.heap.size) := hg14
    have hW14 : Hid (MRow w14 w3.heap.size vW R) := hW12.out.keptO hg14 (fun k hk e => by have := (wb.out k hk).2; simp at e; omega)
    have hG14 : Hid (MRow w14 w6.heap.size vG R) := hG12.out.keptO hg14 (fun k hk e => by have := gb.out k hk; have := z14.out; simp at e; omega)
    have l14 : Hid (Below w1.heap.size w1 w14) := l12.out.trans (grown_below hg14 (by have := z14.out; omega) l12.out.size)
    have tk : decide (1 + 2 * (L.length : Int) < 0) = false := by simp; omega
    clear hR12 hR14 hg14 hW12 hG12 l12
    go_wp2_with fail
    refine (eqMoveS_any vG vW R _ hG14.out.list hW14.out.list lR).mono ?_
    rintro e w15 ⟨rfl, hb15⟩
    have hW15 : Hid (MRow w15 w3.heap.size vW R) := hW14.out.later hb15
    have hG15 : Hid (MRow w15 w6.heap.size vG R) := hG14.out.later hb15
    have l15 : Hid (Below w1.heap.size w1 w15) := bl_trans l14.out hb15
    clear hb15 hW14 hG14 l14 tk
    go_wp2_with fail
    refine (markMoveS_all _ _ R _ hG15.out lR).mono ?_
    rintro e w16 ⟨rfl, hG16, hg16⟩
    have hW16 : Hid (MRow w16 w3.heap.size vW R) := hW15.out.keptO hg16 (fun k hk e => by have := (wb.out k hk).2; have := gb.out k e; have := z14.out; omega)
    have l16 : Hid (Below w1.heap.size w1 w16) := l15.out.grown hg16 l15.out.size (fun k h => by have := gb.out k h; have := z14.out; omega)
    have hG16 : Hid (MRow w16 w6.heap.size vG (emarks 1 R.length)) := hG16
    clear hG15 hW15 hg16 l15
    go_wp2_with fail
    refine (heldMoveS_all _ _ _ R.length _ hG16.out rfl lR).mono ?_
    rintro e w17 ⟨rfl, hb17⟩
    have hG17 : Hid (MRow w17 w6.heap.size vG (emarks 1 R.length)) := hG16.out.later hb17
    have hW17 : Hid (MRow w17 w3.heap.size vW R) := hW16.out.later hb17
    have l17 : Hid (Below w1.heap.size w1 w17) := bl_trans l16.out hb17
    clear hG16 hW16 hb17 l16
    go_wp2_with fail
    refine (toEdgeS_any s c L _ (HL.out.later l17.out) hs).mono ?_
    rintro e w19 ⟨rfl, hR19, hb19⟩
    have l19 : Hid (Below w1.heap.size w1 w19) := bl_trans l17.out hb19
    go_wp2_with fail
    refine (implMeet_any n wk a b _ _ L _ hR19.eds hs (HT.out.later l19.out)).mono ?_
    rintro e w20 ⟨vH, rfl, hH20, hb20⟩
    rw [hRd.out] at hH20
    rw [hFd.out]
    have b1720 : Below w17.heap.size w17 w20 := bl_trans hb19 hb20
    have l20 : Hid (Below w1.heap.size w1 w20) := bl_trans l19.out hb20
    have hW20 := hW17.out.later b1720
    have hG20 := hG17.out.later b1720
    clear hb19 hR19 l19 hb20 hW17 hG17 b1720 l17
    go_wp2_with fail
    refine (eqMoveS_any vH vW R _ hH20.list hW20.list lR).mono ?_
    rintro e w21 ⟨rfl, hb21⟩
    go_wp2_with fail
    refine (heldMoveS_all _ _ _ R.length _ (hG20.later hb21) rfl lR).mono ?_
    rintro e w22 ⟨rfl, hb22⟩
    go_wp2_with fail
    go_ret
    exact ⟨rfl, bl_trans (bl_trans l20.out hb21) hb22⟩
  · go_enter Tryd.func3, Tryd.ntmps3
    go_wp2_with fail
    refine (szEdge_neg s L.length c _ m1 hs).mono ?_
    rintro e w1 ⟨rfl, hq⟩
    subst hq
    go_wp2_with fail
    go_ret
    exact ⟨rfl, Below.refl _ _⟩
end Go.Proofs.YtmoohgafljepdaaDoor
