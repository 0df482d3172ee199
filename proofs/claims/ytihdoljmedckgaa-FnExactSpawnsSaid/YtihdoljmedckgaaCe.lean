import Derived.Test.YtihdoljmedckgaaCc
import Derived.Test.YtihdoljmedckgaaCd
import Derived.Deep.RegionHeld3
namespace Go.Proofs.Ytihdoljmedckgaa
open Go.RowKit
set_option linter.unusedVariables false
set_option linter.unusedSimpArgs false

set_option maxHeartbeats 4000000 in
theorem exactSpawns_any (s : Option Addr) (c : Nat) (L : List Cm) (w : World) (hL : Els 9 cCmd w 0 s L) (hm : mCs L) :
    Calls Try.prog 7 #[.slice s L.length c] w fun e w' => e = .returned (.bool true) ∧ Below w.heap.size w w' := by
  go_enter Try.func7, Try.ntmps7
  go_wp2_with fail
  refine (szCmdS_gen s c L 0 1048576 _ hL hm (by omega) (by omega)).mono ?_
  rintro e w1 ⟨⟨r, rfl, hr⟩, hb1⟩
  rcases hr with rfl | ⟨r0, r1, hk⟩
  · go_wp2_with fail
    go_ret
    exact ⟨rfl, hb1⟩
  · have t1 : decide (r < 0) = false := by simp; omega
    have q1 : (spn L L.length : Int) = (spn L L.length : Int) := rfl
    go_wp2_with fail
    refine (toCmdS_made s c L 0 _ (hL.later cCmd_keeps hb1) hk).mono ?_
    rintro e w2 ⟨g2, rfl, e2, d2, hb2⟩
    have L2 := bl_trans hb1 hb2
    go_wp2_with fail
    refine (specSpawns_any _ _ L _ _ d2 hk.1).mono ?_
    rintro e w3 ⟨rfl, hb3⟩
    have L3 := bl_trans L2 hb3
    clear hb1 hb2 hb3 d2 L2
    go_wp2_with fail
    refine (toCmdS_made s c L 0 _ (hL.later cCmd_keeps L3) hk).mono ?_
    rintro e w4 ⟨g4, rfl, e4, d4, hb4⟩
    have L4 := bl_trans L3 hb4
    clear L3 hb4
    go_wp2_with fail
    refine (implSpawns_any _ _ L _ _ d4 hk.1).mono ?_
    rintro e w5 ⟨rfl, hb5⟩
    have L5 := bl_trans L4 hb5
    have d5 := d4.later cCmd_keeps hb5
    clear L4 hb5 d4
    have ne : ((spn L L.length : Nat) : Int) = ((spn L L.length : Nat) : Int) := rfl
    go_wp2_with fail
    refine (toCmdS_made s c L 0 _ (hL.later cCmd_keeps L5) hk).mono ?_
    rintro e w6 ⟨g6, rfl, e6, d6, hb6⟩
    have L6 := bl_trans L5 hb6
    have d7 := d5.later cCmd_keeps hb6
    clear L5 hb6 d5
    go_wp2_with fail
    refine (eqCmdS_gen _ _ _ _ L _ _ _ d7 d6 hk).mono ?_
    rintro e w7 ⟨rfl, hb7⟩
    have L7 := bl_trans L6 hb7
    go_wp2_with fail
    go_ret
    exact ⟨rfl, L7⟩
end Go.Proofs.Ytihdoljmedckgaa
