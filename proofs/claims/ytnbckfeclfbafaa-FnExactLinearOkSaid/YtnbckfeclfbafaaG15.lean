import Derived.Test.YtnbckfeclfbafaaG14
namespace Go.Proofs.Ytnbckfeclfbafaa
open Go.RowKit
set_option linter.unusedVariables false

set_option maxHeartbeats 2000000 in
theorem exactLinearOk_any (n : Int) (s : Option Addr) (c : Nat) (L : List (Int × Int)) (so : Option Addr) (co : Nat) (O : List Int) (w : World) (hL : Eds w s L) (m1 : L.length ≤ 9223372036854775807) (hO : Ints w so O) (m2 : O.length ≤ 9223372036854775807) :
    Calls Try.prog 5 #[.int .i64 n, .slice s L.length c, .slice so O.length co] w fun e w' => e = .returned (.bool true) ∧ Below w.heap.size w w' := by
  by_cases ho : O.length ≤ 1048576
  · by_cases hs : L.length ≤ 1048576
    · have t0 : decide (1048576 < (O.length : Int)) = false := by simp; omega
      go_enter Try.func5, Try.ntmps5
      go_wp2_with fail
      refine (szEdge_pos s L.length c _ hs).mono ?_
      rintro e w1 ⟨⟨r, rfl, hr⟩, hq⟩
      subst hq
      go_wp2_with fail
      refine (toEdgeS_any s c L _ hL hs).mono ?_
      rintro e w2 ⟨rfl, hR2, hb2⟩
      go_wp2_with fail
      refine (toInts_any so co O _ (hO.later hb2) ho).mono ?_
      rintro e w2' ⟨rfl, hS2, hb2'⟩
      go_wp2_with fail
      refine (specLinearOk_any n _ _ _ _ L O _ (hR2.later hb2').eds hs hS2.ints.1 ho).mono ?_
      rintro e w3 ⟨rfl, hb3⟩
      have l3 : Below w1.heap.size w1 w3 := bl_trans (bl_trans hb2 hb2') hb3
      clear hR2 hS2 hb2 hb2' hb3
      go_wp2_with fail
      refine (toEdgeS_any s c L _ (hL.later l3) hs).mono ?_
      rintro e w4 ⟨rfl, hR4, hb4⟩
      go_wp2_with fail
      refine (toInts_any so co O _ (hO.later (bl_trans l3 hb4)) ho).mono ?_
      rintro e w4' ⟨rfl, hS4, hb4'⟩
      have hR4' := hR4.later hb4'
      go_wp2_with fail
      refine (implLinearOk_any n _ _ _ _ L O _ hR4'.eds hs hS4.ints.1 ho).mono ?_
      rintro e w5 ⟨rfl, hb5⟩
      have hR5 := hR4'.later hb5
      have hS5 := hS4.ints.1.later hb5
      have l5 : Below w1.heap.size w1 w5 := bl_trans (bl_trans (bl_trans l3 hb4) hb4') hb5
      clear hR4 hR4' hS4 hb4 hb4' hb5 l3
      cases hg : linB n L O
      all_goals
        go_wp2_with fail
        refine (toEdgeS_any s c L _ (hL.later l5) hs).mono ?_
        rintro e w6 ⟨rfl, hR6, hb6⟩
        go_wp2_with fail
        refine (eqEdgeS_any _ _ L _ (hR5.later hb6).list hR6.list hs).mono ?_
        rintro e w7 ⟨rfl, hb7⟩
        have l7 : Below w1.heap.size w1 w7 := bl_trans (bl_trans l5 hb6) hb7
        go_wp2_with fail
        refine (toInts_any so co O _ (hO.later l7) ho).mono ?_
        rintro e w8 ⟨rfl, hS8, hb8⟩
        go_wp2_with fail
        refine (eqInts_any _ _ _ _ O O _ (hS5.later (bl_trans (bl_trans hb6 hb7) hb8)) hS8.ints.1 ho).mono ?_
        rintro e w9 ⟨rfl, hb9⟩
        rw [show decide (O = O) = true by simp]
        go_wp2_with fail
        go_ret
        exact ⟨rfl, bl_trans (bl_trans l7 hb8) hb9⟩
    · have t0 : decide (1048576 < (O.length : Int)) = false := by simp; omega
      go_enter Try.func5, Try.ntmps5
      go_wp2_with fail
      refine (szEdge_neg s L.length c _ m1 hs).mono ?_
      rintro e w1 ⟨rfl, hq⟩
      subst hq
      go_wp2_with fail
      go_ret
      exact ⟨rfl, Below.refl _ _⟩
  · have t0 : decide (1048576 < (O.length : Int)) = true := by simp; omega
    go_enter Try.func5, Try.ntmps5
    go_wp2_with fail
    go_ret
    exact ⟨rfl, Below.refl _ _⟩
end Go.Proofs.Ytnbckfeclfbafaa
