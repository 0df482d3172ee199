import Derived.Test.YtkbgklnkagpchaaDoorN11
import Derived.Test.YtkbgklnkagpchaaDoorN16
namespace Go.Proofs.YtkbgklnkagpchaaDoor
open Go.RowKit
set_option linter.unusedVariables false
set_option linter.unusedSimpArgs false

set_option maxHeartbeats 2000000 in
theorem markMoveS_from (B g cap : Nat) (L : List (Int × Int)) (k0 : Int) (w : World) (h : MRow w B (.slice (some ⟨g, 0, none⟩) L.length cap) L) (hl : L.length ≤ 1048576) (h0 : 0 ≤ k0) (h1 : k0 ≤ 4194304) :
    Calls Tryd.prog 13 #[.slice (some ⟨g, 0, none⟩) L.length cap, .int .i64 k0] w fun e w' => e = .returned (.int .i64 (k0 + 2 * L.length)) ∧ MRow w' B (.slice (some ⟨g, 0, none⟩) L.length cap) (emarks k0 L.length) ∧ w.grownBy w' (some g) := by
  go_enter Tryd.func13, Tryd.ntmps13
  go_wp2_with fail
  go_loopw [1, 5] (fun c i wr => ∃ m : Nat, m ≤ L.length ∧ i = .int .i64 m ∧ c = .int .i64 (k0 + 2 * m) ∧ MRow wr B (.slice (some ⟨g, 0, none⟩) L.length cap) (emarks k0 m ++ L.drop m) ∧ w.grownBy wr (some g)) (fun _ i _ => L.length - (intOf i).toNat)
  case atStart => exact ⟨0, Nat.zero_le _, rfl, by simp, by simpa [emarks] using h, grown_refl _ _⟩
  case round =>
    obtain ⟨m, hm, rfl, rfl, hr, hg⟩ := hrel
    by_cases hlt : m < L.length
    · have hlen : (emarks k0 m ++ L.drop m).length = L.length := by simp [emarks_len]; omega
      have hcut : emarks k0 m ++ L.drop m = emarks k0 m ++ L[m] :: L.drop (m + 1) := by rw [List.drop_eq_getElem_cons hlt]
      have hp := MRow.put (L := emarks k0 m ++ L.drop m) (cap := cap) (g := g) (B := B) (w := wr) (by rw [hlen]; exact hr) hcut (k0 + 2 * (m : Int)) (k0 + 2 * (m : Int) + 1)
      rw [hlen, emarks_len, Nat.mul_comm 2 m] at hp
      rw [show emarks k0 m ++ (k0 + 2 * (m : Int), k0 + 2 * (m : Int) + 1) :: L.drop (m + 1) = emarks k0 (m + 1) ++ L.drop (m + 1) by simp [emarks]] at hp
      have hform := hr.form
      rcases hform with ⟨hv, hL⟩ | ⟨g', cap', hv, h1', h2', h3⟩
      · simp at hv
      simp only [Value.slice.injEq, Option.some.injEq, Addr.mk.injEq, and_true] at hv
      obtain ⟨rfl, -, -⟩ := hv
      obtain ⟨p, q, r, t⟩ := h3 m L[m] (by rw [hcut, List.getElem?_append_right (by rw [emarks_len]; omega), emarks_len]; simp)
      rw [Nat.mul_comm 2 m] at p q r t
      obtain ⟨a1, ha1⟩ : ∃ a, L[m].1 = a := ⟨_, rfl⟩
      obtain ⟨a2, ha2⟩ : ∃ a, L[m].2 = a := ⟨_, rfl⟩
      rw [ha1] at p
      rw [ha2] at q
      clear h3 hcut hlen h ha1 ha2
      go_wp2_with fail
      go_roundw
      case rel => exact ⟨m + 1, by omega, by go_num, by go_num, hp.1, grown_trans hg hp.2⟩
      case measure => simp [intOf]; omega
    · have hm' : m = L.length := by omega
      subst hm'
      go_wp2_with fail
      go_ret
      exact ⟨rfl, by simpa using hr, hg⟩
/-- .. of whatever list, a nil one too. -/
theorem markMoveS_fromAll (B : Nat) (v : Value) (L : List (Int × Int)) (k0 : Int) (w : World) (h : MRow w B v L) (hl : L.length ≤ 1048576) (h0 : 0 ≤ k0) (h1 : k0 ≤ 4194304) :
    Calls Tryd.prog 13 #[v, .int .i64 k0] w fun e w' => e = .returned (.int .i64 (k0 + 2 * L.length)) ∧ MRow w' B v (emarks k0 L.length) ∧ w.grownBy w' v.ownBlock := by
  rcases h.form with ⟨rfl, rfl⟩ | ⟨g, cap, rfl, h1', h2', h3⟩
  · go_enter Tryd.func13, Tryd.ntmps13
    go_wp2_with fail
    refine wp_loop_rounds 1 ?_
    rw [rounds_succ]
    go_wp2_with fail
    go_ret
    exact ⟨by simp, MRow.nil _ _, grown_refl _ _⟩
  · exact markMoveS_from B g cap L k0 w h hl h0 h1

set_option maxHeartbeats 1000000 in
theorem szEdge_is (s : Option Addr) (n c : Nat) (w : World) (h : n ≤ 1048576) :
    Calls Tryd.prog 4 #[.slice s n c, .int .i64 1048576] w fun e w' => e = .returned (.int .i64 (1048576 - (n : Int))) ∧ w' = w := by
  go_enter Tryd.func4, Tryd.ntmps4
  go_wp2
  go_ret
  exact ⟨rfl, rfl⟩
set_option maxHeartbeats 1000000 in
theorem szMove_gen (s : Option Addr) (n c : Nat) (left : Int) (w : World) (hn : n ≤ 9223372036854775807) (h0 : 0 ≤ left) (h1 : left ≤ 1048576) :
    Calls Tryd.prog 5 #[.slice s n c, .int .i64 left] w fun e w' => (∃ r : Int, e = .returned (.int .i64 r) ∧ ((r = -1) ∨ (0 ≤ r ∧ (n : Int) ≤ left))) ∧ w' = w := by
  by_cases h : (n : Int) ≤ left
  · go_enter Tryd.func5, Tryd.ntmps5
    go_wp2
    go_ret
    exact ⟨⟨_, rfl, Or.inr ⟨by omega, h⟩⟩, rfl⟩
  · have h' : left < n := by omega
    go_enter Tryd.func5, Tryd.ntmps5
    go_wp2
    go_ret
    exact ⟨⟨_, rfl, Or.inl rfl⟩, rfl⟩
theorem plB_len (n : Int) (L : List (Int × Int)) (wk : Int) (D : List (Int × Int)) : ((plB n L wk D).getD []).length ≤ 1048576 := by
  have key : ∀ (D : List (Int × Int)) (A : List Int), A.length ≤ 16 → ((plG L wk A D).getD []).length ≤ 32 := by
    intro D
    induction D with
    | nil => intro A hA; have := mvs_len L wk A; simp only [plG, Option.getD_some]; omega
    | cons m D ih =>
      intro A hA
      simp only [plG]
      split
      · exact ih _ (by rw [doM_len]; exact hA)
      · simp
  unfold plB
  split
  · rename_i h
    simp only [Bool.and_eq_true] at h
    obtain ⟨m, rfl, hm, _⟩ := gOk_open h.1
    have := key D (List.replicate m 0) (by simpa using hm)
    simp only [Int.toNat_natCast]
    omega
  · simp

set_option maxHeartbeats 8000000 in
theorem exactPoolMoves_any (n : Int) (s : Option Addr) (c : Nat) (L : List (Int × Int)) (wk : Int) (sd : Option Addr) (cd : Nat) (D : List (Int × Int)) (w : World) (hL : Eds w s L) (m1 : L.length ≤ 9223372036854775807) (hD : Eds w sd D) (m2 : D.length ≤ 9223372036854775807) (hT : DbT w) :
    Calls Tryd.prog 3 #[.int .i64 n, .slice s L.length c, .int .i64 wk, .slice sd D.length cd] w fun e w' => e = .returned (.bool true) ∧ Below w.heap.size w w' := by
  have HL : Hid (Eds w s L) := hL
  have HD : Hid (Eds w sd D) := hD
  have HT : Hid (DbT w) := hT
  clear hL hD hT
  by_cases hs : L.length ≤ 1048576
  · go_enter Tryd.func3, Tryd.ntmps3
    go_wp2_with fail
    refine (szEdge_is s L.length c _ hs).mono ?_
    rintro e w0 ⟨rfl, hq⟩
    subst hq
    have hr0 : (0 : Int) ≤ 1048576 - (L.length : Int) := by omega
    have hr1 : (1048576 : Int) - (L.length : Int) ≤ 1048576 := by omega
    obtain ⟨r0, hr⟩ : ∃ r0, (1048576 : Int) - (L.length : Int) = r0 := ⟨_, rfl⟩
    rw [hr] at hr0 hr1 ⊢
    have tr0 : decide (r0 < 0) = false := by simp; omega
    go_wp2_with fail
    refine (szMove_gen sd D.length cd r0 _ m2 hr0 hr1).mono ?_
    rintro e w1 ⟨⟨r, rfl, hrr⟩, hq⟩
    subst hq
    rcases hrr with rfl | ⟨hrp, hrd⟩
    · go_wp2_with fail
      go_ret
      exact ⟨rfl, Below.refl _ _⟩
    have hd : D.length ≤ 1048576 := by omega
    have trr : decide (r < 0) = false := by simp; omega
    clear hr tr0 hrd hr0 hr1
    go_wp2_with fail
    refine (toEdgeS_any s c L _ HL.out hs).mono ?_
    rintro e w2 ⟨rfl, hR2, hb2⟩
    go_wp2_with fail
    refine (toMoveS_any sd cd D _ (HD.out.later hb2) hd).mono ?_
    rintro e w3 ⟨rfl, hS3, hb3⟩
    have hR3 := hR2.later hb3
    have l3 : Hid (Below w1.heap.size w1 w3) := bl_trans hb2 hb3
    go_wp2_with fail
    refine (specPoolMoves_any n wk _ _ L _ _ D _ hR3.eds hs hS3.eds hd).mono ?_
    rintro e w4 ⟨vW, rfl, hW4, hb4⟩
    have l4 : Hid (Below w1.heap.size w1 w4) := bl_trans l3.out hb4
    have hrl : Hid (((plB n L wk D).getD []).length ≤ 1048576) := plB_len n L wk D
    obtain ⟨R, hRd⟩ : ∃ R, Hid ((plB n L wk D).getD [] = R) := ⟨_, rfl⟩
    obtain ⟨F, hFd⟩ : ∃ F, Hid ((plB n L wk D).isSome = F) := ⟨_, rfl⟩
    rw [hRd.out] at hW4 hrl
    rw [hFd.out]
    have hW4' : Hid (MRow w4 w3.heap.size vW R) := hW4
    have z3 : w1.heap.size ≤ w3.heap.size := l3.out.size
    have z4 : w3.heap.size ≤ w4.heap.size := hb4.size
    clear hR2 hb2 hS3 hb3 hR3 hb4 hW4 l3
    go_wp2_with fail
    refine (toEdgeS_any s c L _ (HL.out.later l4.out) hs).mono ?_
    rintro e w5 ⟨rfl, hR5, hb5⟩
    have l5 : Hid (Below w1.heap.size w1 w5) := bl_trans l4.out hb5
    go_wp2_with fail
    refine (toMoveS_any sd cd D _ (HD.out.later l5.out) hd).mono ?_
    rintro e w6 ⟨rfl, hS6, hb6⟩
    have l6 : Hid (Below w1.heap.size w1 w6) := bl_trans l5.out hb6
    have hR6 := hR5.later hb6
    go_wp2_with fail
    refine (implPoolMoves_any n wk _ _ L _ _ D _ hR6.eds hs hS6.eds hd (HT.out.later l6.out)).mono ?_
    rintro e w7 ⟨vG, rfl, hG7, hb7⟩
    rw [hRd.out] at hG7
    rw [hFd.out]
    have l7 : Hid (Below w1.heap.size w1 w7) := bl_trans l6.out hb7
    have hR7 : Hid (ERow w7 w4.heap.size (.slice (some ⟨w4.heap.size, 0, none⟩) L.length L.length) L) := hR6.later hb7
    have hS7 : Hid (MRow w7 w5.heap.size (.slice (some ⟨w5.heap.size, 0, none⟩) D.length D.length) D) := hS6.later hb7
    have hW7 : Hid (MRow w7 w3.heap.size vW R) := ((hW4'.out.later hb5).later hb6).later hb7
    have hG7' : Hid (MRow w7 w6.heap.size vG R) := hG7
    have wb : Hid (∀ k, vW.ownBlock = some k → w3.heap.size ≤ k ∧ k < w4.heap.size) := hW4'.out.lt
    have gb : Hid (∀ k, vG.ownBlock = some k → w6.heap.size ≤ k) := fun k h => (hG7.lt k h).1
    have z14 : Hid (w1.heap.size ≤ w3.heap.size ∧ w3.heap.size ≤ w4.heap.size ∧ w4.heap.size < w5.heap.size ∧ w5.heap.size < w6.heap.size) := ⟨z3, z4, (hR5.lt w4.heap.size rfl).2, (hS6.lt w5.heap.size rfl).2⟩
    clear hR5 hb5 hS6 hb6 hR6 hb7 hG7 hW4' l4 l5 l6 z3 z4
    have tF : (F != F) = false := by simp
    have lR := hrl.out
    go_wp2_with fail
    refine (eqMoveS_any vG vW R _ hG7'.out.list hW7.out.list lR).mono ?_
    rintro e w8 ⟨rfl, hb8⟩
    have l8 : Hid (Below w1.heap.size w1 w8) := bl_trans l7.out hb8
    go_wp2_with fail
    refine (toEdgeS_any s c L _ (HL.out.later l8.out) hs).mono ?_
    rintro e w9 ⟨rfl, hR9, hb9⟩
    go_wp2_with fail
    refine (eqEdgeS_any _ _ L _ ((hR7.out.later hb8).later hb9).list hR9.list hs).mono ?_
    rintro e w10 ⟨rfl, hb10⟩
    have b710 : Below w7.heap.size w7 w10 := bl_trans (bl_trans hb8 hb9) hb10
    have l10 : Hid (Below w1.heap.size w1 w10) := bl_trans l7.out b710
    go_wp2_with fail
    refine (toMoveS_any sd cd D _ (HD.out.later l10.out) hd).mono ?_
    rintro e w11 ⟨rfl, hS11, hb11⟩
    go_wp2_with fail
    refine (eqMoveS_any _ _ D _ ((hS7.out.later b710).later hb11).list hS11.list hd).mono ?_
    rintro e w12 ⟨rfl, hb12⟩
    have b712 : Below w7.heap.size w7 w12 := bl_trans (bl_trans b710 hb11) hb12
    have l12 : Hid (Below w1.heap.size w1 w12) := bl_trans l7.out b712
    have hR12 := hR7.out.later b712
    have hS12 : Hid (MRow w12 w5.heap.size (.slice (some ⟨w5.heap.size, 0, none⟩) D.length D.length) D) := hS7.out.later b712
    have hW12 : Hid (MRow w12 w3.heap.size vW R) := hW7.out.later b712
    have hG12 : Hid (MRow w12 w6.heap.size vG R) := hG7'.out.later b712
    clear hb8 l8 hR9 hb9 hb10 b710 l10 hS11 hb11 hb12 hR7 hS7 hW7 hG7' l7 b712
    go_wp2_with fail
    refine (markEdgeS_all _ _ L _ hR12 hs).mono ?_
    rintro e w13 ⟨rfl, hR13, hg13⟩
    have hg13 : w12.grownBy w13 (some w4.heap.size) := hg13
    have hS13 : Hid (MRow w13 w5.heap.size (.slice (some ⟨w5.heap.size, 0, none⟩) D.length D.length) D) := hS12.out.keptO hg13 (fun k hk e => by have := z14.out; simp [Value.ownBlock] at hk e; omega)
    have hW13 : Hid (MRow w13 w3.heap.size vW R) := hW12.out.keptO hg13 (fun k hk e => by have := (wb.out k hk).2; simp at e; omega)
    have hG13 : Hid (MRow w13 w6.heap.size vG R) := hG12.out.keptO hg13 (fun k hk e => by have := gb.out k hk; have := z14.out; simp at e; omega)
    have l13 : Hid (Below w1.heap.size w1 w13) := l12.out.trans (grown_below hg13 (by have := z14.out; omega) l12.out.size)
    clear hR12 hR13 hg13 hS12 hW12 hG12 l12
    go_wp2_with fail
    refine (markMoveS_fromAll _ _ D (1 + 2 * (L.length : Int)) _ hS13.out hd (by omega) (by omega)).mono ?_
    rintro e w14 ⟨rfl, hS14, hg14⟩
    have hg14 : w13.grownBy w14 (some w5.heap.size) := hg14
    have hW14 : Hid (MRow w14 w3.heap.size vW R) := hW13.out.keptO hg14 (fun k hk e => by have := (wb.out k hk).2; have := z14.out; simp at e; omega)
    have hG14 : Hid (MRow w14 w6.heap.size vG R) := hG13.out.keptO hg14 (fun k hk e => by have := gb.out k hk; have := z14.out; simp at e; omega)
    have l14 : Hid (Below w1.heap.size w1 w14) := l13.out.trans (grown_below hg14 (by have := z14.out; omega) l13.out.size)
    have tk : decide (1 + 2 * (L.length : Int) + 2 * (D.length : Int) < 0) = false := by simp; omega
    clear hS13 hS14 hg14 hW13 hG13 l13
    go_wp2_with fail
    refine (eqMoveS_any vG vW R _ hG14.out.list hW14.out.list lR).mono ?_
    rintro e w15 ⟨rfl, hb15⟩
    have hW15 : Hid (MRow w15 w3.heap.size vW R) := hW14.out.later hb15
    have hG15 : Hid (MRow w15 w6.heap.size vG R) := hG14.out.later hb15
    have l15 : Hid (Below w1.heap.size w1 w15) := bl_trans l14.out hb15
    clear hb15 hW14 hG14 l14 tk
    go_wp2_with fail
    refine (markMoveS_all _ _ R _ hG15.out lR).mono ?_
    rintro e w16 ⟨rfl, hG16, hg16⟩
    have hW16 : Hid (MRow w16 w3.heap.size vW R) := hW15.out.keptO hg16 (fun k hk e => by have := (wb.out k hk).2; have := gb.out k e; have := z14.out; omega)
    have l16 : Hid (Below w1.heap.size w1 w16) := l15.out.grown hg16 l15.out.size (fun k h => by have := gb.out k h; have := z14.out; omega)
    have hG16 : Hid (MRow w16 w6.heap.size vG (emarks 1 R.length)) := hG16
    clear hG15 hW15 hg16 l15
    go_wp2_with fail
    refine (heldMoveS_all _ _ _ R.length _ hG16.out rfl lR).mono ?_
    rintro e w17 ⟨rfl, hb17⟩
    have hG17 : Hid (MRow w17 w6.heap.size vG (emarks 1 R.length)) := hG16.out.later hb17
    have hW17 : Hid (MRow w17 w3.heap.size vW R) := hW16.out.later hb17
    have l17 : Hid (Below w1.heap.size w1 w17) := bl_trans l16.out hb17
    clear hG16 hW16 hb17 l16
    go_wp2_with fail
    refine (toEdgeS_any s c L _ (HL.out.later l17.out) hs).mono ?_
    rintro e w18 ⟨rfl, hR18, hb18⟩
    have l18 : Hid (Below w1.heap.size w1 w18) := bl_trans l17.out hb18
    go_wp2_with fail
    refine (toMoveS_any sd cd D _ (HD.out.later l18.out) hd).mono ?_
    rintro e w19 ⟨rfl, hS19, hb19⟩
    have hR19 := hR18.later hb19
    have l19 : Hid (Below w1.heap.size w1 w19) := bl_trans l18.out hb19
    go_wp2_with fail
    refine (implPoolMoves_any n wk _ _ L _ _ D _ hR19.eds hs hS19.eds hd (HT.out.later l19.out)).mono ?_
    rintro e w20 ⟨vH, rfl, hH20, hb20⟩
    rw [hRd.out] at hH20
    rw [hFd.out]
    have b1720 : Below w17.heap.size w17 w20 := bl_trans (bl_trans hb18 hb19) hb20
    have l20 : Hid (Below w1.heap.size w1 w20) := bl_trans l19.out hb20
    have hW20 := hW17.out.later b1720
    have hG20 := hG17.out.later b1720
    clear hR18 hb18 hS19 hb19 hR19 l18 l19 hb20 hW17 hG17 b1720 l17
    go_wp2_with fail
    refine (eqMoveS_any vH vW R _ hH20.list hW20.list lR).mono ?_
    rintro e w21 ⟨rfl, hb21⟩
    go_wp2_with fail
    refine (heldMoveS_all _ _ _ R.length _ (hG20.later hb21) rfl lR).mono ?_
    rintro e w22 ⟨rfl, hb22⟩
    go_wp2_with fail
    go_ret
    exact ⟨rfl, bl_trans (bl_trans l20.out hb21) hb22⟩
  · go_enter Tryd.func3, Tryd.ntmps3
    go_wp2_with fail
    refine (szEdge_neg s L.length c _ m1 hs).mono ?_
    rintro e w1 ⟨rfl, hq⟩
    subst hq
    go_wp2_with fail
    go_ret
    exact ⟨rfl, Below.refl _ _⟩
end Go.Proofs.YtkbgklnkagpchaaDoor
