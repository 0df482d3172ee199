import Derived.Test.YtkbgklnkagpchaaN5
namespace Go.Proofs.Ytkbgklnkagpchaa
open Go.RowKit
set_option linter.unusedVariables false
set_option linter.unusedSimpArgs false

set_option maxHeartbeats 4000000 in
theorem exactRunning_any (s : Option Addr) (c : Nat) (L : List (Int × Int)) (w : World) (hL : Eds w s L) (m1 : L.length ≤ 9223372036854775807) :
    Calls Try.prog 3 #[.slice s L.length c] w fun e w' => e = .returned (.bool true) ∧ Below w.heap.size w w' := by
  have HL : Hid (Eds w s L) := hL
  clear hL
  by_cases hs : L.length ≤ 1048576
  · go_enter Try.func3, Try.ntmps3
    go_wp2_with fail
    refine (szMove_pos s L.length c _ hs).mono ?_
    rintro e w1 ⟨⟨r, rfl, hr⟩, hq⟩
    subst hq
    go_wp2_with fail
    refine (toMoveS_any s c L _ HL.out hs).mono ?_
    rintro e w2 ⟨rfl, hR2, hb2⟩
    go_wp2_with fail
    refine (specRunning_any _ _ L _ hR2.eds hs).mono ?_
    rintro e w3 ⟨⟨ws, wc, rfl, hW3⟩, hb3⟩
    have l3 : Hid (Below w1.heap.size w1 w3) := bl_trans hb2 hb3
    go_wp2_with fail
    refine (toMoveS_any s c L _ (HL.out.later l3.out) hs).mono ?_
    rintro e w4 ⟨rfl, hR4, hb4⟩
    have l4 : Hid (Below w1.heap.size w1 w4) := bl_trans l3.out hb4
    have hW4 := hW3.later hb4
    go_wp2_with fail
    refine (implRunning_any _ _ L _ hR4.eds hs).mono ?_
    rintro e w5 ⟨⟨gs, gc, rfl, hG5⟩, hb5⟩
    have l5 : Hid (Below w1.heap.size w1 w5) := bl_trans l4.out hb5
    have hrl : Hid ((runB L).length ≤ 200) := runB_len L
    obtain ⟨W, hWd⟩ : ∃ W, Hid (runB L = W) := ⟨_, rfl⟩
    rw [hWd.out] at hW4 hG5 hrl ⊢
    have hR5 : Hid (MRow w5 w3.heap.size (.slice (some ⟨w3.heap.size, 0, none⟩) L.length L.length) L) := hR4.later hb5
    have hW5 : Hid (OI w5 w2.heap.size (.slice ws W.length wc) W) := hW4.later hb5
    have hG5 : Hid (OI w5 w4.heap.size (.slice gs W.length gc) W) := hG5
    have wb : Hid (∀ k, (Value.slice ws W.length wc).ownBlock = some k → w2.heap.size ≤ k ∧ k < w3.heap.size) := by
      rw [hWd.out] at hW3; exact hW3.lt
    have gb : Hid (∀ k, (Value.slice gs W.length gc).ownBlock = some k → w4.heap.size ≤ k) := fun k h => (hG5.out.lt k h).1
    have z12 : Hid (w1.heap.size ≤ w2.heap.size) := hb2.size
    have z23 : Hid (w2.heap.size ≤ w3.heap.size) := hb3.size
    have z34 : Hid (w3.heap.size < w4.heap.size) := (hR4.lt w3.heap.size rfl).2
    clear hR2 hb2 hW3 hb3 hR4 hb4 hW4 hb5 l3 l4
    have lW := hrl.out
    go_wp2_with fail
    refine (eqI_more gs ws gc wc W _ _ _ hG5.out.els hW5.out.els (by omega)).mono ?_
    rintro e w6 ⟨rfl, hb6⟩
    have l6 : Hid (Below w1.heap.size w1 w6) := bl_trans l5.out hb6
    go_wp2_with fail
    refine (toMoveS_any s c L _ (HL.out.later l6.out) hs).mono ?_
    rintro e w7 ⟨rfl, hR7, hb7⟩
    go_wp2_with fail
    refine (eqMoveS_any _ _ L _ ((hR5.out.later hb6).later hb7).list hR7.list hs).mono ?_
    rintro e w8 ⟨rfl, hb8⟩
    have b58 : Below w5.heap.size w5 w8 := bl_trans (bl_trans hb6 hb7) hb8
    have l8 : Hid (Below w1.heap.size w1 w8) := bl_trans l5.out b58
    have hR8 := hR5.out.later b58
    have hW8 := hW5.out.later b58
    have hG8 := hG5.out.later b58
    clear hb6 hb7 hb8 hR7 l6
    go_wp2_with fail
    refine (markMoveS_all _ _ L _ hR8 hs).mono ?_
    rintro e w9 ⟨rfl, hR9, hg9⟩
    have hg9 : w8.grownBy w9 (some w3.heap.size) := hg9
    have hW9 : Hid (OI w9 w2.heap.size (.slice ws W.length wc) W) := hW8.keptO hg9 (fun k hk e => by have := (wb.out k hk).2; simp at e; omega)
    have hG9 : Hid (OI w9 w4.heap.size (.slice gs W.length gc) W) := hG8.keptO hg9 (fun k hk e => by have := gb.out k hk; have := z34.out; simp at e; omega)
    have l9 : Hid (Below w1.heap.size w1 w9) := l8.out.trans (grown_below hg9 (by have := z12.out; have := z23.out; omega) l8.out.size)
    clear hR8 hW8 hG8 hR9 hg9 b58 l8
    go_wp2_with fail
    refine (eqI_more gs ws gc wc W _ _ _ hG9.out.els hW9.out.els (by omega)).mono ?_
    rintro e w10 ⟨rfl, hb10⟩
    have hW10 := hW9.out.later hb10
    have hG10 := hG9.out.later hb10
    go_wp2_with fail
    refine (markI_full _ gs gc W _ hG10 (by omega)).mono ?_
    rintro e w11 ⟨rfl, hG11, hg11⟩
    have hW11 : Hid (OI w11 w2.heap.size (.slice ws W.length wc) W) := hW10.keptO hg11 (fun k hk e => by have := (wb.out k hk).2; have := gb.out k e; have := z34.out; omega)
    have l10 : Below w1.heap.size w1 w10 := bl_trans l9.out hb10
    have l11 : Hid (Below w1.heap.size w1 w11) := l10.grown hg11 l10.size (fun k h => by have := gb.out k h; have := z12.out; have := z23.out; have := z34.out; omega)
    have hG11 : Hid (OI w11 w4.heap.size (.slice gs (ims 1 W.length).length gc) (ims 1 W.length)) := by
      rw [ims_len]; exact hG11
    clear hW10 hG10 hb10 l10 hg11 hW9 hG9 l9
    go_wp2_with fail
    refine (heldI_full _ gs W.length gc _ hG11.out.els (by omega)).mono ?_
    rintro e w12 ⟨rfl, hb12⟩
    have hG12 := hG11.out.later hb12
    have hW12 := hW11.out.later hb12
    have l12 : Hid (Below w1.heap.size w1 w12) := bl_trans l11.out hb12
    clear hG11 hW11 hb12 l11
    go_wp2_with fail
    refine (toMoveS_any s c L _ (HL.out.later l12.out) hs).mono ?_
    rintro e w13 ⟨rfl, hR13, hb13⟩
    go_wp2_with fail
    refine (implRunning_any _ _ L _ hR13.eds hs).mono ?_
    rintro e w14 ⟨⟨hs', hc', rfl, hH14⟩, hb14⟩
    rw [hWd.out] at hH14 ⊢
    have b1214 : Below w12.heap.size w12 w14 := bl_trans hb13 hb14
    go_wp2_with fail
    refine (eqI_more hs' ws hc' wc W _ _ _ hH14.els (hW12.later b1214).els (by omega)).mono ?_
    rintro e w15 ⟨rfl, hb15⟩
    go_wp2_with fail
    refine (heldI_full _ gs W.length gc _ ((hG12.later b1214).later hb15).els (by omega)).mono ?_
    rintro e w16 ⟨rfl, hb16⟩
    go_wp2_with fail
    go_ret
    exact ⟨rfl, bl_trans (bl_trans (bl_trans l12.out b1214) hb15) hb16⟩
  · go_enter Try.func3, Try.ntmps3
    go_wp2_with fail
    refine (szMove_neg s L.length c _ m1 hs).mono ?_
    rintro e w1 ⟨rfl, hq⟩
    subst hq
    go_wp2_with fail
    go_ret
    exact ⟨rfl, Below.refl _ _⟩

set_option maxHeartbeats 4000000 in
theorem exactWidest_any (s : Option Addr) (c : Nat) (L : List (Int × Int)) (w : World) (hL : Eds w s L) (m1 : L.length ≤ 9223372036854775807) :
    Calls Try.prog 4 #[.slice s L.length c] w fun e w' => e = .returned (.bool true) ∧ Below w.heap.size w w' := by
  have HL : Hid (Eds w s L) := hL
  clear hL
  by_cases hs : L.length ≤ 1048576
  · go_enter Try.func4, Try.ntmps4
    go_wp2_with fail
    refine (szMove_pos s L.length c _ hs).mono ?_
    rintro e w1 ⟨⟨r, rfl, hr⟩, hq⟩
    subst hq
    go_wp2_with fail
    refine (toMoveS_any s c L _ HL.out hs).mono ?_
    rintro e w2 ⟨rfl, hR2, hb2⟩
    go_wp2_with fail
    refine (specWidest_any _ _ _ L _ hR2.eds hs (Nat.le_refl _) hs).mono ?_
    rintro e w3 ⟨rfl, hb3⟩
    have l3 : Hid (Below w1.heap.size w1 w3) := bl_trans hb2 hb3
    go_wp2_with fail
    refine (toMoveS_any s c L _ (HL.out.later l3.out) hs).mono ?_
    rintro e w4 ⟨rfl, hR4, hb4⟩
    go_wp2_with fail
    refine (implWidest_any _ _ L _ hR4.eds hs).mono ?_
    rintro e w5 ⟨rfl, hb5⟩
    have hR5 := hR4.later hb5
    have l5 : Below w1.heap.size w1 w5 := bl_trans (bl_trans l3.out hb4) hb5
    have tW : (((widB L : Nat) : Int) != ((widB L : Nat) : Int)) = false := by simp
    clear hR2 hR4 hb2 hb3 hb4 hb5 l3
    go_wp2_with fail
    refine (toMoveS_any s c L _ (HL.out.later l5) hs).mono ?_
    rintro e w6 ⟨rfl, hR6, hb6⟩
    go_wp2_with fail
    refine (eqMoveS_any _ _ L _ (hR5.later hb6).list hR6.list hs).mono ?_
    rintro e w7 ⟨rfl, hb7⟩
    go_wp2_with fail
    go_ret
    exact ⟨rfl, bl_trans (bl_trans l5 hb6) hb7⟩
  · go_enter Try.func4, Try.ntmps4
    go_wp2_with fail
    refine (szMove_neg s L.length c _ m1 hs).mono ?_
    rintro e w1 ⟨rfl, hq⟩
    subst hq
    go_wp2_with fail
    go_ret
    exact ⟨rfl, Below.refl _ _⟩
end Go.Proofs.Ytkbgklnkagpchaa
