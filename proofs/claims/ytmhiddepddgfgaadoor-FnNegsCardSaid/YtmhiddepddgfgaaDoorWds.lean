import Derived.Test.YtmhiddepddgfgaaDoorWdr
import Derived.Test.YtmhiddepddgfgaaDoorWx
namespace Go.Proofs.YtmhiddepddgfgaaDoor
open Go.RowKit

theorem fres_lt (op : BinOp) (x y : Nat) (w : World) : fres op x y w < 18446744073709551616 := (fres_is op x y w).1

set_option maxHeartbeats 1000000 in
theorem l1Nan_any (w : World) :
    Calls Tryd.prog 46 #[] w fun e w' => ∃ x m, e = .returned (.float .f64 x) ∧ x < 18446744073709551616 ∧ w' = w.drewN m := by
  have hq := fun t x y w => run_float_any (P := Tryd.prog) .quo rfl t x y w
  go_enter Tryd.func46, Tryd.ntmps46
  go_wp2_with fail
  go_ret
  exact ⟨_, _, rfl, fres_lt _ _ _ _, rfl⟩

set_option maxHeartbeats 1000000 in
theorem l1Inf_any (w : World) :
    Calls Tryd.prog 47 #[] w fun e w' => ∃ x m, e = .returned (.float .f64 x) ∧ x < 18446744073709551616 ∧ w' = w.drewN m := by
  have hq := fun t x y w => run_float_any (P := Tryd.prog) .quo rfl t x y w
  go_enter Tryd.func47, Tryd.ntmps47
  go_wp2_with fail
  go_ret
  exact ⟨_, _, rfl, fres_lt _ _ _ _, rfl⟩

theorem Cur.drewN {n : Nat} {w : World} (h : Cur n w) (m : Nat) : Cur n (w.drewN m) := h

set_option maxHeartbeats 2000000 in
theorem l1Float_any (n : Nat) (w : World) (hC : Cur n w) :
    Calls Tryd.prog 43 #[.pointer (some ⟨n, 0, none⟩)] w fun e w' => ∃ x : Nat, e = .returned (.float .f64 x) ∧ x < 18446744073709551616 ∧ Keep n w w' ∧ Cur n w' := by
  have hq := fun t x y w => run_float_any (P := Tryd.prog) .quo rfl t x y w
  have hm := fun t x y w => run_float_any (P := Tryd.prog) .mul rfl t x y w
  have hn := run_neg
  go_enter Tryd.func43, Tryd.ntmps43
  go_wp2_with fail
  refine (l1Below_any n _ _ hC (by omega)).mono ?_
  rintro e w1 ⟨r, rfl, r1, r2, hK, hC1⟩
  go_wp2_with (first | (go_at_call 14; refine (l1Below_any n _ _ hC1 (by omega)).mono ?_; rintro e w2 ⟨s, rfl, s1, s2, hK2, hC2⟩) | (go_at_call 16; refine (l1Once_any n _ _ hC1 (by omega)).mono ?_; rintro e w2 ⟨b, rfl, hK2, hC2⟩) | (go_at_call 46; refine (l1Nan_any _).mono ?_; rintro e w3 ⟨x, m, rfl, lx, rfl⟩) | (go_at_call 47; refine (l1Inf_any _).mono ?_; rintro e w3 ⟨x, m, rfl, lx, rfl⟩))
  all_goals
    go_ret
    first
      | exact ⟨_, rfl, lx, (hK.trans hK2).drewN _, hC2.drewN _⟩
      | exact ⟨_, rfl, fres_lt _ _ _ _, (hK.trans hK2).drewN _, hC2.drewN _⟩
      | exact ⟨_, rfl, negF_lt (fres_lt _ _ _ _), (hK.trans hK2).drewN _, hC2.drewN _⟩
      | exact ⟨_, rfl, by decide, hK.trans hK2, hC2⟩
      | exact ⟨_, rfl, by decide, hK, hC1⟩
end Go.Proofs.YtmhiddepddgfgaaDoor
