import Derived.Test.YtijgkpkakkjkgabEd
import Derived.Test.YtijgkpkakkjkgabEf
namespace Go.Proofs.Ytijgkpkakkjkgab
open Go.RowKit
set_option linter.unusedVariables false

theorem Rows2.ints {w : World} {B g f : Nat} {G F : List Int} (h : Rows2 w B g f G F) : Ints w (some ⟨g, 0, none⟩) G ∧ Ints w (some ⟨f, 0, none⟩) F := ⟨h.1.ints.1, h.2.1.ints.1⟩

set_option maxHeartbeats 2000000 in
theorem exactEntsOk_any (s1 s2 : Option Addr) (c1 c2 : Nat) (G F : List Int) (w : World) (h1 : Ints w s1 G) (h2 : Ints w s2 F) (m1 : G.length ≤ 9223372036854775807) (m2 : F.length ≤ 9223372036854775807) :
    Calls Try.prog 3 #[.agg #[.slice s1 G.length c1, .slice s2 F.length c2]] w fun e w' => e = .returned (.bool true) ∧ Below w.heap.size w w' := by
  have hal := alloc_old
  have haf := alloc_oldf
  have k0 := Blk.new w #[.slice s1 G.length c1, .slice s2 F.length c2] 24
  by_cases hs : G.length + F.length ≤ 1048576
  · go_enter Try.func3, Try.ntmps3
    go_wp2_with fail
    refine (szEnts_pos s1 s2 G.length F.length c1 c2 _ m1 m2 hs).mono ?_
    rintro e w1 ⟨⟨r, rfl, hr⟩, hb1⟩
    have k1 := k0.later hb1
    have l1 : Below w.heap.size w w1 := by (repeat (first | with_reducible exact Below.refl _ _ | with_reducible refine bl_alloc ?_ _ | with_reducible refine bl_drewN ?_ _ | with_reducible refine bl_drew ?_ | with_reducible refine bl_setCell ?_ (by first | exact Nat.le_refl _ | (dsimp only; omega) | (simp <;> omega)) _ | with_reducible refine bl_trans ?_ (by with_reducible assumption)))
    obtain ⟨x0, x1, x2⟩ := k1.two
    go_wp2_with fail
    refine (toEnts_any s1 s2 c1 c2 G F _ (h1.later l1) (h2.later l1) (by omega) (by omega)).mono ?_
    rintro e w2 ⟨g, f, rfl, hR2, hb2⟩
    have l2 := bl_trans l1 hb2
    have k2 := k1.later hb2
    clear x0 x1 x2 hb1 k0 k1
    obtain ⟨x0, x1, x2⟩ := k2.two
    go_wp2_with fail
    refine (specEntsOk_any _ _ _ _ G F _ hR2.ints.1 hR2.ints.2).mono ?_
    rintro e w3 ⟨rfl, hb3⟩
    have l3 := bl_trans l2 hb3
    have k3 := k2.later hb3
    clear x0 x1 x2 hb2 k2 l1
    obtain ⟨x0, x1, x2⟩ := k3.two
    go_wp2_with fail
    refine (toEnts_any s1 s2 c1 c2 G F _ (h1.later l3) (h2.later l3) (by omega) (by omega)).mono ?_
    rintro e w4 ⟨g4, f4, rfl, hR4, hb4⟩
    have l4 := bl_trans l3 hb4
    have k4 := k3.later hb4
    clear x0 x1 x2 hb3 k3 l2
    obtain ⟨x0, x1, x2⟩ := k4.two
    have j0 := Blk.new w4 #[.slice (some ⟨g4, 0, none⟩) G.length G.length, .slice (some ⟨f4, 0, none⟩) F.length F.length] 27
    go_wp2_with fail
    refine (implEntsOk_any _ _ _ _ G F _ (hR4.ints.1.later (by (repeat (first | with_reducible exact Below.refl _ _ | with_reducible refine bl_alloc ?_ _ | with_reducible refine bl_drewN ?_ _ | with_reducible refine bl_drew ?_ | with_reducible refine bl_setCell ?_ (by first | exact Nat.le_refl _ | (dsimp only; omega) | (simp <;> omega)) _ | with_reducible refine bl_trans ?_ (by with_reducible assumption))))) (hR4.ints.2.later (by (repeat (first | with_reducible exact Below.refl _ _ | with_reducible refine bl_alloc ?_ _ | with_reducible refine bl_drewN ?_ _ | with_reducible refine bl_drew ?_ | with_reducible refine bl_setCell ?_ (by first | exact Nat.le_refl _ | (dsimp only; omega) | (simp <;> omega)) _ | with_reducible refine bl_trans ?_ (by with_reducible assumption))))) (by omega)).mono ?_
    rintro e w5 ⟨rfl, hb5⟩
    have l5 : Below w.heap.size w w5 := by (repeat (first | with_reducible exact Below.refl _ _ | with_reducible refine bl_alloc ?_ _ | with_reducible refine bl_drewN ?_ _ | with_reducible refine bl_drew ?_ | with_reducible refine bl_setCell ?_ (by first | exact Nat.le_refl _ | (dsimp only; omega) | (simp <;> omega)) _ | with_reducible refine bl_trans ?_ (by with_reducible assumption)))
    have k5 := (k4.alloc _).later hb5
    have j5 := j0.later hb5
    have i5 : Ints w5 (some ⟨g4, 0, none⟩) G ∧ Ints w5 (some ⟨f4, 0, none⟩) F := ⟨(hR4.ints.1.alloc _).later hb5, (hR4.ints.2.alloc _).later hb5⟩
    clear x0 x1 x2 hb4 k4 l3 l4 j0 hb5
    obtain ⟨x0, x1, x2⟩ := k5.two
    obtain ⟨y0, y1, y2⟩ := j5.two
    go_wp2_with fail
    go_region_with (first
      | (go_at_call 10; refine (toEnts_any s1 s2 c1 c2 G F _ (h1.later (by (repeat (first | with_reducible exact Below.refl _ _ | with_reducible refine bl_alloc ?_ _ | with_reducible refine bl_drewN ?_ _ | with_reducible refine bl_drew ?_ | with_reducible refine bl_setCell ?_ (by first | exact Nat.le_refl _ | (dsimp only; omega) | (simp <;> omega)) _ | with_reducible refine bl_trans ?_ (by with_reducible assumption))))) (h2.later (by (repeat (first | with_reducible exact Below.refl _ _ | with_reducible refine bl_alloc ?_ _ | with_reducible refine bl_drewN ?_ _ | with_reducible refine bl_drew ?_ | with_reducible refine bl_setCell ?_ (by first | exact Nat.le_refl _ | (dsimp only; omega) | (simp <;> omega)) _ | with_reducible refine bl_trans ?_ (by with_reducible assumption))))) (by omega) (by omega)).mono ?_; rintro e w6 ⟨g6, f6, rfl, hR6, hb6⟩; have l6 : Below w5.heap.size w5 w6 := (by (repeat (first | with_reducible exact Below.refl _ _ | with_reducible refine bl_alloc ?_ _ | with_reducible refine bl_drewN ?_ _ | with_reducible refine bl_drew ?_ | with_reducible refine bl_setCell ?_ (by first | exact Nat.le_refl _ | (dsimp only; omega) | (simp <;> omega)) _ | with_reducible refine bl_trans ?_ (by with_reducible assumption)))); obtain ⟨i61, i62⟩ : Ints w6 (some ⟨g4, 0, none⟩) G ∧ Ints w6 (some ⟨f4, 0, none⟩) F := ⟨i5.1.later l6, i5.2.later l6⟩; obtain ⟨z0, z1, z2⟩ := (j5.later l6).two)
      | (go_at_call 12; refine (eqEnts_any _ _ _ _ _ _ _ _ G F G F _ (by assumption) (by assumption) hR6.ints.1 hR6.ints.2 (by omega) (by omega)).mono ?_; rintro e w7 ⟨rfl, hb7⟩; rw [show decide (G = G ∧ F = F) = true by simp]))
    all_goals
      go_wp2_with fail
      go_ret
      refine ⟨rfl, ?_⟩
      (repeat (first | with_reducible exact Below.refl _ _ | with_reducible refine bl_alloc ?_ _ | with_reducible refine bl_drewN ?_ _ | with_reducible refine bl_drew ?_ | with_reducible refine bl_setCell ?_ (by first | exact Nat.le_refl _ | (dsimp only; omega) | (simp <;> omega)) _ | with_reducible refine bl_trans ?_ (by with_reducible assumption)))
  · go_enter Try.func3, Try.ntmps3
    go_wp2_with fail
    refine (szEnts_neg s1 s2 G.length F.length c1 c2 _ m1 m2 hs).mono ?_
    rintro e w1 ⟨rfl, hb1⟩
    go_wp2_with fail
    go_ret
    refine ⟨rfl, ?_⟩
    (repeat (first | with_reducible exact Below.refl _ _ | with_reducible refine bl_alloc ?_ _ | with_reducible refine bl_drewN ?_ _ | with_reducible refine bl_drew ?_ | with_reducible refine bl_setCell ?_ (by first | exact Nat.le_refl _ | (dsimp only; omega) | (simp <;> omega)) _ | with_reducible refine bl_trans ?_ (by with_reducible assumption)))
end Go.Proofs.Ytijgkpkakkjkgab
