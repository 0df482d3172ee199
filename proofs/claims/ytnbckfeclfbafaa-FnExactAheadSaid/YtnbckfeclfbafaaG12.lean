import Derived.Test.YtnbckfeclfbafaaG11
namespace Go.Proofs.Ytnbckfeclfbafaa
open Go.RowKit
set_option linter.unusedVariables false

set_option maxHeartbeats 2000000 in
theorem exactAhead_any (n : Int) (s : Option Addr) (c : Nat) (L : List (Int × Int)) (a b : Int) (w : World) (hL : Eds w s L) (m1 : L.length ≤ 9223372036854775807) :
    Calls Try.prog 4 #[.int .i64 n, .slice s L.length c, .int .i64 a, .int .i64 b] w fun e w' => e = .returned (.bool true) ∧ Below w.heap.size w w' := by
  by_cases hs : L.length ≤ 1048576
  · go_enter Try.func4, Try.ntmps4
    go_wp2_with fail
    refine (szEdge_pos s L.length c _ hs).mono ?_
    rintro e w1 ⟨⟨r, rfl, hr⟩, hq⟩
    subst hq
    go_wp2_with fail
    refine (toEdgeS_any s c L _ hL hs).mono ?_
    rintro e w2 ⟨rfl, hR2, hb2⟩
    go_wp2_with fail
    refine (specAhead_any n a b _ _ L _ hR2.eds hs).mono ?_
    rintro e w3 ⟨rfl, hb3⟩
    go_wp2_with fail
    refine (toEdgeS_any s c L _ (hL.later (bl_trans hb2 hb3)) hs).mono ?_
    rintro e w4 ⟨rfl, hR4, hb4⟩
    go_wp2_with fail
    refine (implAhead_any n a b _ _ L _ hR4.eds hs).mono ?_
    rintro e w5 ⟨rfl, hb5⟩
    have hR5 := hR4.later hb5
    have l5 : Below w1.heap.size w1 w5 := bl_trans (bl_trans (bl_trans hb2 hb3) hb4) hb5
    clear hR2 hR4 hb2 hb3 hb4 hb5
    cases hg : aheadB n L a b
    all_goals
      go_wp2_with fail
      refine (toEdgeS_any s c L _ (hL.later l5) hs).mono ?_
      rintro e w6 ⟨rfl, hR6, hb6⟩
      go_wp2_with fail
      refine (eqEdgeS_any _ _ L _ (hR5.later hb6).list hR6.list hs).mono ?_
      rintro e w7 ⟨rfl, hb7⟩
      go_wp2_with fail
      go_ret
      exact ⟨rfl, bl_trans (bl_trans l5 hb6) hb7⟩
  · go_enter Try.func4, Try.ntmps4
    go_wp2_with fail
    refine (szEdge_neg s L.length c _ m1 hs).mono ?_
    rintro e w1 ⟨rfl, hq⟩
    subst hq
    go_wp2_with fail
    go_ret
    exact ⟨rfl, Below.refl _ _⟩
end Go.Proofs.Ytnbckfeclfbafaa
