import Derived.Test.YtijgkpkakkjkgaaWo
namespace Go.Proofs.Ytijgkpkakkjkgaa
open Go.RowKit

def realOut (op : Int) (a b : Nat) : V × Int :=
  if op = 1 then (rV (floatBits .add .f64 a b), 0) else if op = 2 then (rV (floatBits .sub .f64 a b), 0) else if op = 3 then (rV (floatBits .mul .f64 a b), 0)
  else if op = 4 then (rV (floatBits .quo .f64 a b), 0)
  else if op = 6 then (bV (FloatKind.f64.format.order a b == some Ordering.lt), 0) else if op = 7 then (bV (FloatKind.f64.format.order a b == some Ordering.eq), 0) else (zV, 1)

set_option maxHeartbeats 1000000 in
theorem realOp_any (op : Int) (a b : Nat) (w : World) :
    Calls Try.prog 47 #[.int .i64 op, .float .f64 a, .float .f64 b] w fun e w' => Leaves2 (realOut op a b) w e w' := by
  by_cases h1 : op = 1
  · subst h1
    have hf := fun t w => run_float_any (P := Try.prog) .add rfl t a b w
    go_enter Try.func47, Try.ntmps47
    go_wp2_with (go_at_call 75; refine (realVal_any _ _).mono ?_; rintro e w' ⟨rfl, rfl⟩)
    refine bodyPost_ret (v := .tuple #[.agg #[.int .i64 2, .int .i64 0, .float .f64 (fres .add a b _), .float .f64 0], .int .i64 0]) (by simp [results, Try.results47, go_sem]; rfl) rfl (leaves_r rfl (fres_is _ _ _ _) rfl ?_)
    (repeat (first | with_reducible exact Below.refl _ _ | with_reducible refine bl_alloc ?_ _ | with_reducible refine bl_drewN ?_ _ | with_reducible refine bl_drew ?_ | with_reducible refine bl_setCell ?_ (by first | exact Nat.le_refl _ | (dsimp only; omega) | (simp <;> omega)) _ | with_reducible refine bl_trans ?_ (by with_reducible assumption)))
  by_cases h2 : op = 2
  · subst h2
    have hf := fun t w => run_float_any (P := Try.prog) .sub rfl t a b w
    go_enter Try.func47, Try.ntmps47
    go_wp2_with (go_at_call 75; refine (realVal_any _ _).mono ?_; rintro e w' ⟨rfl, rfl⟩)
    refine bodyPost_ret (v := .tuple #[.agg #[.int .i64 2, .int .i64 0, .float .f64 (fres .sub a b _), .float .f64 0], .int .i64 0]) (by simp [results, Try.results47, go_sem]; rfl) rfl (leaves_r rfl (fres_is _ _ _ _) rfl ?_)
    (repeat (first | with_reducible exact Below.refl _ _ | with_reducible refine bl_alloc ?_ _ | with_reducible refine bl_drewN ?_ _ | with_reducible refine bl_drew ?_ | with_reducible refine bl_setCell ?_ (by first | exact Nat.le_refl _ | (dsimp only; omega) | (simp <;> omega)) _ | with_reducible refine bl_trans ?_ (by with_reducible assumption)))
  by_cases h3 : op = 3
  · subst h3
    have hf := fun t w => run_float_any (P := Try.prog) .mul rfl t a b w
    go_enter Try.func47, Try.ntmps47
    go_wp2_with (go_at_call 75; refine (realVal_any _ _).mono ?_; rintro e w' ⟨rfl, rfl⟩)
    refine bodyPost_ret (v := .tuple #[.agg #[.int .i64 2, .int .i64 0, .float .f64 (fres .mul a b _), .float .f64 0], .int .i64 0]) (by simp [results, Try.results47, go_sem]; rfl) rfl (leaves_r rfl (fres_is _ _ _ _) rfl ?_)
    (repeat (first | with_reducible exact Below.refl _ _ | with_reducible refine bl_alloc ?_ _ | with_reducible refine bl_drewN ?_ _ | with_reducible refine bl_drew ?_ | with_reducible refine bl_setCell ?_ (by first | exact Nat.le_refl _ | (dsimp only; omega) | (simp <;> omega)) _ | with_reducible refine bl_trans ?_ (by with_reducible assumption)))
  by_cases h4 : op = 4
  · subst h4
    have hf := fun t w => run_float_any (P := Try.prog) .quo rfl t a b w
    go_enter Try.func47, Try.ntmps47
    go_wp2_with (go_at_call 75; refine (realVal_any _ _).mono ?_; rintro e w' ⟨rfl, rfl⟩)
    refine bodyPost_ret (v := .tuple #[.agg #[.int .i64 2, .int .i64 0, .float .f64 (fres .quo a b _), .float .f64 0], .int .i64 0]) (by simp [results, Try.results47, go_sem]; rfl) rfl (leaves_r rfl (fres_is _ _ _ _) rfl ?_)
    (repeat (first | with_reducible exact Below.refl _ _ | with_reducible refine bl_alloc ?_ _ | with_reducible refine bl_drewN ?_ _ | with_reducible refine bl_drew ?_ | with_reducible refine bl_setCell ?_ (by first | exact Nat.le_refl _ | (dsimp only; omega) | (simp <;> omega)) _ | with_reducible refine bl_trans ?_ (by with_reducible assumption)))
  by_cases h6 : op = 6
  · subst h6
    go_enter Try.func47, Try.ntmps47
    go_wp2_with (go_at_call 74; refine (boolVal_any _ _).mono ?_; rintro e w' ⟨rfl, rfl⟩)
    refine bodyPost_ret (v := .tuple #[.agg #[.int .i64 4, .int .i64 (bN (FloatKind.f64.format.order a b == some Ordering.lt)), .float .f64 0, .float .f64 0], .int .i64 0]) (by simp [results, Try.results47, go_sem]) rfl (leaves_b rfl rfl ?_)
    (repeat (first | with_reducible exact Below.refl _ _ | with_reducible refine bl_alloc ?_ _ | with_reducible refine bl_drewN ?_ _ | with_reducible refine bl_drew ?_ | with_reducible refine bl_setCell ?_ (by first | exact Nat.le_refl _ | (dsimp only; omega) | (simp <;> omega)) _ | with_reducible refine bl_trans ?_ (by with_reducible assumption)))
  by_cases h7 : op = 7
  · subst h7
    go_enter Try.func47, Try.ntmps47
    go_wp2_with (go_at_call 74; refine (boolVal_any _ _).mono ?_; rintro e w' ⟨rfl, rfl⟩)
    refine bodyPost_ret (v := .tuple #[.agg #[.int .i64 4, .int .i64 (bN (FloatKind.f64.format.order a b == some Ordering.eq)), .float .f64 0, .float .f64 0], .int .i64 0]) (by simp [results, Try.results47, go_sem]) rfl (leaves_b rfl rfl ?_)
    (repeat (first | with_reducible exact Below.refl _ _ | with_reducible refine bl_alloc ?_ _ | with_reducible refine bl_drewN ?_ _ | with_reducible refine bl_drew ?_ | with_reducible refine bl_setCell ?_ (by first | exact Nat.le_refl _ | (dsimp only; omega) | (simp <;> omega)) _ | with_reducible refine bl_trans ?_ (by with_reducible assumption)))
  have g1 : (op == 1) = false := beq_eq_false_iff_ne.2 h1
  have g2 : (op == 2) = false := beq_eq_false_iff_ne.2 h2
  have g3 : (op == 3) = false := beq_eq_false_iff_ne.2 h3
  have g4 : (op == 4) = false := beq_eq_false_iff_ne.2 h4
  have g6 : (op == 6) = false := beq_eq_false_iff_ne.2 h6
  have g7 : (op == 7) = false := beq_eq_false_iff_ne.2 h7
  have E : Hid (realOut op a b = (zV, 1)) := by simp [Hid, realOut, h1, h2, h3, h4, h6, h7]
  go_enter Try.func47, Try.ntmps47
  go_wp2_with fail
  refine bodyPost_ret (v := .tuple #[.agg #[.int .i64 0, .int .i64 0, .float .f64 0, .float .f64 0], .int .i64 1]) (by simp [results, Try.results47, go_sem]) rfl (leaves_z E.out rfl ?_)
  (repeat (first | with_reducible exact Below.refl _ _ | with_reducible refine bl_alloc ?_ _ | with_reducible refine bl_drewN ?_ _ | with_reducible refine bl_drew ?_ | with_reducible refine bl_setCell ?_ (by first | exact Nat.le_refl _ | (dsimp only; omega) | (simp <;> omega)) _ | with_reducible refine bl_trans ?_ (by with_reducible assumption)))
end Go.Proofs.Ytijgkpkakkjkgaa
