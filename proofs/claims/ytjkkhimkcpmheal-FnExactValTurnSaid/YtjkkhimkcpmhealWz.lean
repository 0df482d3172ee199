import Derived.Test.YtjkkhimkcpmhealWbx
import Derived.Test.YtjkkhimkcpmhealWy
namespace Go.Proofs.Ytjkkhimkcpmheal
open Go.RowKit

set_option maxHeartbeats 4000000 in
theorem exactTurn_any (op k i : Int) (x y : Nat) (w : World) (lx : x < 18446744073709551616) (ly : y < 18446744073709551616) :
    Calls Try.prog 7 #[.int .i64 op, .agg #[.int .i64 k, .int .i64 i, .float .f64 x, .float .f64 y]] w fun e w' => e = .returned (.bool true) ∧ Below w.heap.size w w' := by
  have hT := box_new w k i x y 24
  have hal := alloc_old
  have haf := alloc_oldf
  go_enter Try.func7, Try.ntmps7
  go_wp2_with fail
  refine (toVal_any _ _ _ _ _).mono ?_
  rintro e w1 ⟨rfl, hb1⟩
  obtain ⟨c0, c1, c2, c3⟩ := box_later (show Below _ _ w1 by (repeat (first | with_reducible exact Below.refl _ _ | with_reducible refine bl_alloc ?_ _ | with_reducible refine bl_drewN ?_ _ | with_reducible refine bl_drew ?_ | with_reducible refine bl_setCell ?_ (by first | exact Nat.le_refl _ | (dsimp only; omega) | (simp <;> omega)) _ | with_reducible refine bl_trans ?_ (by with_reducible assumption)))) hT
  obtain ⟨hc1, hf1⟩ := bcell2 hb1
  go_wp2_with fail
  refine (specTurn_any _ _ _ _ _ _ lx ly).mono ?_
  rintro e w2 ⟨k1, i1, x1, y1, rfl, hv1, hb2⟩
  obtain ⟨d0, d1, d2, d3⟩ := box_later (show Below _ _ w2 by (repeat (first | with_reducible exact Below.refl _ _ | with_reducible refine bl_alloc ?_ _ | with_reducible refine bl_drewN ?_ _ | with_reducible refine bl_drew ?_ | with_reducible refine bl_setCell ?_ (by first | exact Nat.le_refl _ | (dsimp only; omega) | (simp <;> omega)) _ | with_reducible refine bl_trans ?_ (by with_reducible assumption)))) hT
  obtain ⟨hc2, hf2⟩ := bcell2 hb2
  have hU := box_new w2 k1 i1 x1 y1 26
  go_wp2_with fail
  refine (toVal_any _ _ _ _ _).mono ?_
  rintro e w3 ⟨rfl, hb3⟩
  obtain ⟨e0, e1, e2, e3⟩ := box_later (show Below _ _ w3 by (repeat (first | with_reducible exact Below.refl _ _ | with_reducible refine bl_alloc ?_ _ | with_reducible refine bl_drewN ?_ _ | with_reducible refine bl_drew ?_ | with_reducible refine bl_setCell ?_ (by first | exact Nat.le_refl _ | (dsimp only; omega) | (simp <;> omega)) _ | with_reducible refine bl_trans ?_ (by with_reducible assumption)))) hU
  go_wp2_with fail
  refine (implTurn_any _ _ _ _ _ _ lx ly).mono ?_
  rintro e w4 ⟨k2, i2, x2, y2, rfl, hv2, hb4⟩
  obtain ⟨f0, f1, f2, f3⟩ := box_later (show Below _ _ w4 by (repeat (first | with_reducible exact Below.refl _ _ | with_reducible refine bl_alloc ?_ _ | with_reducible refine bl_drewN ?_ _ | with_reducible refine bl_drew ?_ | with_reducible refine bl_setCell ?_ (by first | exact Nat.le_refl _ | (dsimp only; omega) | (simp <;> omega)) _ | with_reducible refine bl_trans ?_ (by with_reducible assumption)))) hU
  have E : Hid (eqB k2 i2 x2 y2 k1 i1 x1 y1 = true) := eqB_of hv2 hv1
  go_wp2_with fail
  refine (eqVal_any _ _ _ _ _ _ _ _ _ hv2.2.2.1.1 hv2.2.2.2.1 hv1.2.2.1.1 hv1.2.2.2.1).mono ?_
  rintro e w5 ⟨rfl, hb5⟩
  rw [E.out]
  go_wp2_with fail
  go_ret
  refine ⟨rfl, ?_⟩
  (repeat (first | with_reducible exact Below.refl _ _ | with_reducible refine bl_alloc ?_ _ | with_reducible refine bl_drewN ?_ _ | with_reducible refine bl_drew ?_ | with_reducible refine bl_setCell ?_ (by first | exact Nat.le_refl _ | (dsimp only; omega) | (simp <;> omega)) _ | with_reducible refine bl_trans ?_ (by with_reducible assumption)))
end Go.Proofs.Ytjkkhimkcpmheal
