import Derived.Test.YtmhiddepddgfgaaDoorWx
namespace Go.Proofs.YtmhiddepddgfgaaDoor
open Go.RowKit
set_option linter.unusedSimpArgs false

theorem ok4' {i : Int} {x y : Nat} (h : okB 4 i x y = true) : i = 0 ∨ i = 1 := by
  simp [okB] at h; exact h.1.1

set_option maxHeartbeats 2000000 in
theorem specTurn1 (op i : Int) (x y : Nat) (w : World) (lx : x < 18446744073709551616) (ly : y < 18446744073709551616) (hx : okB 1 i x y = true) :
    Calls Tryd.prog 7 #[.int .i64 op, .agg #[.int .i64 1, .int .i64 i, .float .f64 x, .float .f64 y]] w fun e w' => Leaves2 (intTurnOut op i) w e w' := by
  have hn := run_neg
  by_cases h1 : op = 1
  · subst h1
    go_enter Tryd.func7, Tryd.ntmps7
    go_wp2_with (go_at_call 9; refine (specOk_any _ _ _ _ _ lx ly).mono ?_; rintro e w' ⟨rfl, rfl⟩)
    refine bodyPost_ret (v := .tuple #[.agg #[.int .i64 1, .int .i64 (wrap64 (-i)), .float .f64 0, .float .f64 0], .int .i64 0]) (by simp [results, Tryd.results7, go_sem]) rfl (leaves_i rfl rfl ?_)
    (repeat (first | with_reducible exact Below.refl _ _ | with_reducible refine bl_alloc ?_ _ | with_reducible refine bl_drewN ?_ _ | with_reducible refine bl_drew ?_ | with_reducible refine bl_setCell ?_ (by first | exact Nat.le_refl _ | (dsimp only; omega) | (simp <;> omega)) _ | with_reducible refine bl_trans ?_ (by with_reducible assumption)))
  by_cases h2 : op = 2
  · subst h2
    go_enter Tryd.func7, Tryd.ntmps7
    go_wp2_with (go_at_call 9; refine (specOk_any _ _ _ _ _ lx ly).mono ?_; rintro e w' ⟨rfl, rfl⟩)
    refine bodyPost_ret (v := .tuple #[.agg #[.int .i64 0, .int .i64 0, .float .f64 0, .float .f64 0], .int .i64 1]) (by simp [results, Tryd.results7, go_sem]) rfl (leaves_z rfl rfl ?_)
    (repeat (first | with_reducible exact Below.refl _ _ | with_reducible refine bl_alloc ?_ _ | with_reducible refine bl_drewN ?_ _ | with_reducible refine bl_drew ?_ | with_reducible refine bl_setCell ?_ (by first | exact Nat.le_refl _ | (dsimp only; omega) | (simp <;> omega)) _ | with_reducible refine bl_trans ?_ (by with_reducible assumption)))
  by_cases h3 : op = 3
  · subst h3
    go_enter Tryd.func7, Tryd.ntmps7
    go_wp2_with (go_at_call 9; refine (specOk_any _ _ _ _ _ lx ly).mono ?_; rintro e w' ⟨rfl, rfl⟩)
    refine bodyPost_ret (v := .tuple #[.agg #[.int .i64 0, .int .i64 0, .float .f64 0, .float .f64 0], .int .i64 1]) (by simp [results, Tryd.results7, go_sem]) rfl (leaves_z rfl rfl ?_)
    (repeat (first | with_reducible exact Below.refl _ _ | with_reducible refine bl_alloc ?_ _ | with_reducible refine bl_drewN ?_ _ | with_reducible refine bl_drew ?_ | with_reducible refine bl_setCell ?_ (by first | exact Nat.le_refl _ | (dsimp only; omega) | (simp <;> omega)) _ | with_reducible refine bl_trans ?_ (by with_reducible assumption)))
  by_cases h4 : op = 4
  · subst h4
    go_enter Tryd.func7, Tryd.ntmps7
    go_wp2_with (go_at_call 9; refine (specOk_any _ _ _ _ _ lx ly).mono ?_; rintro e w' ⟨rfl, rfl⟩)
    refine bodyPost_ret (v := .tuple #[.agg #[.int .i64 0, .int .i64 0, .float .f64 0, .float .f64 0], .int .i64 1]) (by simp [results, Tryd.results7, go_sem]) rfl (leaves_z rfl rfl ?_)
    (repeat (first | with_reducible exact Below.refl _ _ | with_reducible refine bl_alloc ?_ _ | with_reducible refine bl_drewN ?_ _ | with_reducible refine bl_drew ?_ | with_reducible refine bl_setCell ?_ (by first | exact Nat.le_refl _ | (dsimp only; omega) | (simp <;> omega)) _ | with_reducible refine bl_trans ?_ (by with_reducible assumption)))
  by_cases h5 : op = 5
  · subst h5
    go_enter Tryd.func7, Tryd.ntmps7
    go_wp2_with (go_at_call 9; refine (specOk_any _ _ _ _ _ lx ly).mono ?_; rintro e w' ⟨rfl, rfl⟩)
    refine bodyPost_ret (v := .tuple #[.agg #[.int .i64 2, .int .i64 0, .float .f64 (floatOfInt .f64 i), .float .f64 0], .int .i64 0]) (by simp [results, Tryd.results7, go_sem]) rfl (leaves_r rfl (is_some (ofInt_lt i)) rfl ?_)
    (repeat (first | with_reducible exact Below.refl _ _ | with_reducible refine bl_alloc ?_ _ | with_reducible refine bl_drewN ?_ _ | with_reducible refine bl_drew ?_ | with_reducible refine bl_setCell ?_ (by first | exact Nat.le_refl _ | (dsimp only; omega) | (simp <;> omega)) _ | with_reducible refine bl_trans ?_ (by with_reducible assumption)))
  by_cases h6 : op = 6
  · subst h6
    go_enter Tryd.func7, Tryd.ntmps7
    go_wp2_with (go_at_call 9; refine (specOk_any _ _ _ _ _ lx ly).mono ?_; rintro e w' ⟨rfl, rfl⟩)
    refine bodyPost_ret (v := .tuple #[.agg #[.int .i64 0, .int .i64 0, .float .f64 0, .float .f64 0], .int .i64 1]) (by simp [results, Tryd.results7, go_sem]) rfl (leaves_z rfl rfl ?_)
    (repeat (first | with_reducible exact Below.refl _ _ | with_reducible refine bl_alloc ?_ _ | with_reducible refine bl_drewN ?_ _ | with_reducible refine bl_drew ?_ | with_reducible refine bl_setCell ?_ (by first | exact Nat.le_refl _ | (dsimp only; omega) | (simp <;> omega)) _ | with_reducible refine bl_trans ?_ (by with_reducible assumption)))
  have g1 : (op == 1) = false := beq_eq_false_iff_ne.2 h1
  have g2 : (op == 2) = false := beq_eq_false_iff_ne.2 h2
  have g3 : (op == 3) = false := beq_eq_false_iff_ne.2 h3
  have g4 : (op == 4) = false := beq_eq_false_iff_ne.2 h4
  have g5 : (op == 5) = false := beq_eq_false_iff_ne.2 h5
  have g6 : (op == 6) = false := beq_eq_false_iff_ne.2 h6
  have E : Hid (intTurnOut op i = (zV, 1)) := by simp [Hid, intTurnOut, h1, h2, h3, h4, h5, h6]
  go_enter Tryd.func7, Tryd.ntmps7
  go_wp2_with (go_at_call 9; refine (specOk_any _ _ _ _ _ lx ly).mono ?_; rintro e w' ⟨rfl, rfl⟩)
  refine bodyPost_ret (v := .tuple #[.agg #[.int .i64 0, .int .i64 0, .float .f64 0, .float .f64 0], .int .i64 1]) (by simp [results, Tryd.results7, go_sem]) rfl (leaves_z E.out rfl ?_)
  (repeat (first | with_reducible exact Below.refl _ _ | with_reducible refine bl_alloc ?_ _ | with_reducible refine bl_drewN ?_ _ | with_reducible refine bl_drew ?_ | with_reducible refine bl_setCell ?_ (by first | exact Nat.le_refl _ | (dsimp only; omega) | (simp <;> omega)) _ | with_reducible refine bl_trans ?_ (by with_reducible assumption)))

set_option maxHeartbeats 2000000 in
theorem specTurn2 (op i : Int) (x y : Nat) (w : World) (lx : x < 18446744073709551616) (ly : y < 18446744073709551616) (hx : okB 2 i x y = true) :
    Calls Tryd.prog 7 #[.int .i64 op, .agg #[.int .i64 2, .int .i64 i, .float .f64 x, .float .f64 y]] w fun e w' => Leaves2 (realTurnOut op x) w e w' := by
  have hn := run_neg
  by_cases h1 : op = 1
  · subst h1
    go_enter Tryd.func7, Tryd.ntmps7
    go_wp2_with (go_at_call 9; refine (specOk_any _ _ _ _ _ lx ly).mono ?_; rintro e w' ⟨rfl, rfl⟩)
    refine bodyPost_ret (v := .tuple #[.agg #[.int .i64 2, .int .i64 0, .float .f64 (negF x), .float .f64 0], .int .i64 0]) (by simp [results, Tryd.results7, go_sem]) rfl (leaves_r rfl (is_some (negF_lt lx)) rfl ?_)
    (repeat (first | with_reducible exact Below.refl _ _ | with_reducible refine bl_alloc ?_ _ | with_reducible refine bl_drewN ?_ _ | with_reducible refine bl_drew ?_ | with_reducible refine bl_setCell ?_ (by first | exact Nat.le_refl _ | (dsimp only; omega) | (simp <;> omega)) _ | with_reducible refine bl_trans ?_ (by with_reducible assumption)))
  by_cases h2 : op = 2
  · subst h2
    go_enter Tryd.func7, Tryd.ntmps7
    go_wp2_with (go_at_call 9; refine (specOk_any _ _ _ _ _ lx ly).mono ?_; rintro e w' ⟨rfl, rfl⟩)
    refine bodyPost_ret (v := .tuple #[.agg #[.int .i64 0, .int .i64 0, .float .f64 0, .float .f64 0], .int .i64 1]) (by simp [results, Tryd.results7, go_sem]) rfl (leaves_z rfl rfl ?_)
    (repeat (first | with_reducible exact Below.refl _ _ | with_reducible refine bl_alloc ?_ _ | with_reducible refine bl_drewN ?_ _ | with_reducible refine bl_drew ?_ | with_reducible refine bl_setCell ?_ (by first | exact Nat.le_refl _ | (dsimp only; omega) | (simp <;> omega)) _ | with_reducible refine bl_trans ?_ (by with_reducible assumption)))
  by_cases h3 : op = 3
  · subst h3
    go_enter Tryd.func7, Tryd.ntmps7
    go_wp2_with (go_at_call 9; refine (specOk_any _ _ _ _ _ lx ly).mono ?_; rintro e w' ⟨rfl, rfl⟩)
    refine bodyPost_ret (v := .tuple #[.agg #[.int .i64 0, .int .i64 0, .float .f64 0, .float .f64 0], .int .i64 1]) (by simp [results, Tryd.results7, go_sem]) rfl (leaves_z rfl rfl ?_)
    (repeat (first | with_reducible exact Below.refl _ _ | with_reducible refine bl_alloc ?_ _ | with_reducible refine bl_drewN ?_ _ | with_reducible refine bl_drew ?_ | with_reducible refine bl_setCell ?_ (by first | exact Nat.le_refl _ | (dsimp only; omega) | (simp <;> omega)) _ | with_reducible refine bl_trans ?_ (by with_reducible assumption)))
  by_cases h4 : op = 4
  · subst h4
    go_enter Tryd.func7, Tryd.ntmps7
    go_wp2_with (go_at_call 9; refine (specOk_any _ _ _ _ _ lx ly).mono ?_; rintro e w' ⟨rfl, rfl⟩)
    refine bodyPost_ret (v := .tuple #[.agg #[.int .i64 0, .int .i64 0, .float .f64 0, .float .f64 0], .int .i64 1]) (by simp [results, Tryd.results7, go_sem]) rfl (leaves_z rfl rfl ?_)
    (repeat (first | with_reducible exact Below.refl _ _ | with_reducible refine bl_alloc ?_ _ | with_reducible refine bl_drewN ?_ _ | with_reducible refine bl_drew ?_ | with_reducible refine bl_setCell ?_ (by first | exact Nat.le_refl _ | (dsimp only; omega) | (simp <;> omega)) _ | with_reducible refine bl_trans ?_ (by with_reducible assumption)))
  by_cases h5 : op = 5
  · subst h5
    go_enter Tryd.func7, Tryd.ntmps7
    go_wp2_with (go_at_call 9; refine (specOk_any _ _ _ _ _ lx ly).mono ?_; rintro e w' ⟨rfl, rfl⟩)
    refine bodyPost_ret (v := .tuple #[.agg #[.int .i64 0, .int .i64 0, .float .f64 0, .float .f64 0], .int .i64 1]) (by simp [results, Tryd.results7, go_sem]) rfl (leaves_z rfl rfl ?_)
    (repeat (first | with_reducible exact Below.refl _ _ | with_reducible refine bl_alloc ?_ _ | with_reducible refine bl_drewN ?_ _ | with_reducible refine bl_drew ?_ | with_reducible refine bl_setCell ?_ (by first | exact Nat.le_refl _ | (dsimp only; omega) | (simp <;> omega)) _ | with_reducible refine bl_trans ?_ (by with_reducible assumption)))
  by_cases h6 : op = 6
  · subst h6
    go_enter Tryd.func7, Tryd.ntmps7
    go_wp2_with (go_at_call 9; refine (specOk_any _ _ _ _ _ lx ly).mono ?_; rintro e w' ⟨rfl, rfl⟩)
    refine bodyPost_ret (v := .tuple #[.agg #[.int .i64 0, .int .i64 0, .float .f64 0, .float .f64 0], .int .i64 1]) (by simp [results, Tryd.results7, go_sem]) rfl (leaves_z rfl rfl ?_)
    (repeat (first | with_reducible exact Below.refl _ _ | with_reducible refine bl_alloc ?_ _ | with_reducible refine bl_drewN ?_ _ | with_reducible refine bl_drew ?_ | with_reducible refine bl_setCell ?_ (by first | exact Nat.le_refl _ | (dsimp only; omega) | (simp <;> omega)) _ | with_reducible refine bl_trans ?_ (by with_reducible assumption)))
  have g1 : (op == 1) = false := beq_eq_false_iff_ne.2 h1
  have g2 : (op == 2) = false := beq_eq_false_iff_ne.2 h2
  have g3 : (op == 3) = false := beq_eq_false_iff_ne.2 h3
  have g4 : (op == 4) = false := beq_eq_false_iff_ne.2 h4
  have g5 : (op == 5) = false := beq_eq_false_iff_ne.2 h5
  have g6 : (op == 6) = false := beq_eq_false_iff_ne.2 h6
  have E : Hid (realTurnOut op x = (zV, 1)) := by simp [Hid, realTurnOut, h1, h2, h3, h4, h5, h6]
  go_enter Tryd.func7, Tryd.ntmps7
  go_wp2_with (go_at_call 9; refine (specOk_any _ _ _ _ _ lx ly).mono ?_; rintro e w' ⟨rfl, rfl⟩)
  refine bodyPost_ret (v := .tuple #[.agg #[.int .i64 0, .int .i64 0, .float .f64 0, .float .f64 0], .int .i64 1]) (by simp [results, Tryd.results7, go_sem]) rfl (leaves_z E.out rfl ?_)
  (repeat (first | with_reducible exact Below.refl _ _ | with_reducible refine bl_alloc ?_ _ | with_reducible refine bl_drewN ?_ _ | with_reducible refine bl_drew ?_ | with_reducible refine bl_setCell ?_ (by first | exact Nat.le_refl _ | (dsimp only; omega) | (simp <;> omega)) _ | with_reducible refine bl_trans ?_ (by with_reducible assumption)))

set_option maxHeartbeats 2000000 in
theorem specTurn3 (op i : Int) (x y : Nat) (w : World) (lx : x < 18446744073709551616) (ly : y < 18446744073709551616) (hx : okB 3 i x y = true) :
    Calls Tryd.prog 7 #[.int .i64 op, .agg #[.int .i64 3, .int .i64 i, .float .f64 x, .float .f64 y]] w fun e w' => Leaves2 (pairTurnOut op x y) w e w' := by
  have hn := run_neg
  by_cases h1 : op = 1
  · subst h1
    go_enter Tryd.func7, Tryd.ntmps7
    go_wp2_with (go_at_call 9; refine (specOk_any _ _ _ _ _ lx ly).mono ?_; rintro e w' ⟨rfl, rfl⟩)
    refine bodyPost_ret (v := .tuple #[.agg #[.int .i64 3, .int .i64 0, .float .f64 (negF x), .float .f64 (negF y)], .int .i64 0]) (by simp [results, Tryd.results7, go_sem]) rfl (leaves_p rfl (is_some (negF_lt lx)) (is_some (negF_lt ly)) rfl ?_)
    (repeat (first | with_reducible exact Below.refl _ _ | with_reducible refine bl_alloc ?_ _ | with_reducible refine bl_drewN ?_ _ | with_reducible refine bl_drew ?_ | with_reducible refine bl_setCell ?_ (by first | exact Nat.le_refl _ | (dsimp only; omega) | (simp <;> omega)) _ | with_reducible refine bl_trans ?_ (by with_reducible assumption)))
  by_cases h2 : op = 2
  · subst h2
    go_enter Tryd.func7, Tryd.ntmps7
    go_wp2_with (go_at_call 9; refine (specOk_any _ _ _ _ _ lx ly).mono ?_; rintro e w' ⟨rfl, rfl⟩)
    refine bodyPost_ret (v := .tuple #[.agg #[.int .i64 0, .int .i64 0, .float .f64 0, .float .f64 0], .int .i64 1]) (by simp [results, Tryd.results7, go_sem]) rfl (leaves_z rfl rfl ?_)
    (repeat (first | with_reducible exact Below.refl _ _ | with_reducible refine bl_alloc ?_ _ | with_reducible refine bl_drewN ?_ _ | with_reducible refine bl_drew ?_ | with_reducible refine bl_setCell ?_ (by first | exact Nat.le_refl _ | (dsimp only; omega) | (simp <;> omega)) _ | with_reducible refine bl_trans ?_ (by with_reducible assumption)))
  by_cases h3 : op = 3
  · subst h3
    go_enter Tryd.func7, Tryd.ntmps7
    go_wp2_with (go_at_call 9; refine (specOk_any _ _ _ _ _ lx ly).mono ?_; rintro e w' ⟨rfl, rfl⟩)
    refine bodyPost_ret (v := .tuple #[.agg #[.int .i64 2, .int .i64 0, .float .f64 x, .float .f64 0], .int .i64 0]) (by simp [results, Tryd.results7, go_sem]) rfl (leaves_r rfl (is_some lx) rfl ?_)
    (repeat (first | with_reducible exact Below.refl _ _ | with_reducible refine bl_alloc ?_ _ | with_reducible refine bl_drewN ?_ _ | with_reducible refine bl_drew ?_ | with_reducible refine bl_setCell ?_ (by first | exact Nat.le_refl _ | (dsimp only; omega) | (simp <;> omega)) _ | with_reducible refine bl_trans ?_ (by with_reducible assumption)))
  by_cases h4 : op = 4
  · subst h4
    go_enter Tryd.func7, Tryd.ntmps7
    go_wp2_with (go_at_call 9; refine (specOk_any _ _ _ _ _ lx ly).mono ?_; rintro e w' ⟨rfl, rfl⟩)
    refine bodyPost_ret (v := .tuple #[.agg #[.int .i64 2, .int .i64 0, .float .f64 y, .float .f64 0], .int .i64 0]) (by simp [results, Tryd.results7, go_sem]) rfl (leaves_r rfl (is_some ly) rfl ?_)
    (repeat (first | with_reducible exact Below.refl _ _ | with_reducible refine bl_alloc ?_ _ | with_reducible refine bl_drewN ?_ _ | with_reducible refine bl_drew ?_ | with_reducible refine bl_setCell ?_ (by first | exact Nat.le_refl _ | (dsimp only; omega) | (simp <;> omega)) _ | with_reducible refine bl_trans ?_ (by with_reducible assumption)))
  by_cases h5 : op = 5
  · subst h5
    go_enter Tryd.func7, Tryd.ntmps7
    go_wp2_with (go_at_call 9; refine (specOk_any _ _ _ _ _ lx ly).mono ?_; rintro e w' ⟨rfl, rfl⟩)
    refine bodyPost_ret (v := .tuple #[.agg #[.int .i64 0, .int .i64 0, .float .f64 0, .float .f64 0], .int .i64 1]) (by simp [results, Tryd.results7, go_sem]) rfl (leaves_z rfl rfl ?_)
    (repeat (first | with_reducible exact Below.refl _ _ | with_reducible refine bl_alloc ?_ _ | with_reducible refine bl_drewN ?_ _ | with_reducible refine bl_drew ?_ | with_reducible refine bl_setCell ?_ (by first | exact Nat.le_refl _ | (dsimp only; omega) | (simp <;> omega)) _ | with_reducible refine bl_trans ?_ (by with_reducible assumption)))
  by_cases h6 : op = 6
  · subst h6
    have hm := fun t x y w => run_float_any (P := Tryd.prog) .mul rfl t x y w
    have ha := fun t x y w => run_float_any (P := Tryd.prog) .add rfl t x y w
    go_enter Tryd.func7, Tryd.ntmps7
    go_wp2_with (go_at_call 9; refine (specOk_any _ _ _ _ _ lx ly).mono ?_; rintro e w' ⟨rfl, rfl⟩)
    refine bodyPost_ret (v := .tuple #[.agg #[.int .i64 2, .int .i64 0, .float .f64 (fres .add (fres .mul x x _) (fres .mul y y _) _), .float .f64 0], .int .i64 0]) (by simp [results, Tryd.results7, go_sem]; rfl) rfl (leaves_r rfl (Is.op2 (fres_is _ _ _ _) (fres_is _ _ _ _) (fres_is _ _ _ _)) rfl ?_)
    (repeat (first | with_reducible exact Below.refl _ _ | with_reducible refine bl_alloc ?_ _ | with_reducible refine bl_drewN ?_ _ | with_reducible refine bl_drew ?_ | with_reducible refine bl_setCell ?_ (by first | exact Nat.le_refl _ | (dsimp only; omega) | (simp <;> omega)) _ | with_reducible refine bl_trans ?_ (by with_reducible assumption)))
  have g1 : (op == 1) = false := beq_eq_false_iff_ne.2 h1
  have g2 : (op == 2) = false := beq_eq_false_iff_ne.2 h2
  have g3 : (op == 3) = false := beq_eq_false_iff_ne.2 h3
  have g4 : (op == 4) = false := beq_eq_false_iff_ne.2 h4
  have g5 : (op == 5) = false := beq_eq_false_iff_ne.2 h5
  have g6 : (op == 6) = false := beq_eq_false_iff_ne.2 h6
  have E : Hid (pairTurnOut op x y = (zV, 1)) := by simp [Hid, pairTurnOut, h1, h2, h3, h4, h5, h6]
  go_enter Tryd.func7, Tryd.ntmps7
  go_wp2_with (go_at_call 9; refine (specOk_any _ _ _ _ _ lx ly).mono ?_; rintro e w' ⟨rfl, rfl⟩)
  refine bodyPost_ret (v := .tuple #[.agg #[.int .i64 0, .int .i64 0, .float .f64 0, .float .f64 0], .int .i64 1]) (by simp [results, Tryd.results7, go_sem]) rfl (leaves_z E.out rfl ?_)
  (repeat (first | with_reducible exact Below.refl _ _ | with_reducible refine bl_alloc ?_ _ | with_reducible refine bl_drewN ?_ _ | with_reducible refine bl_drew ?_ | with_reducible refine bl_setCell ?_ (by first | exact Nat.le_refl _ | (dsimp only; omega) | (simp <;> omega)) _ | with_reducible refine bl_trans ?_ (by with_reducible assumption)))

set_option maxHeartbeats 2000000 in
theorem specTurn4 (op i : Int) (x y : Nat) (w : World) (lx : x < 18446744073709551616) (ly : y < 18446744073709551616) (hx : okB 4 i x y = true) :
    Calls Tryd.prog 7 #[.int .i64 op, .agg #[.int .i64 4, .int .i64 i, .float .f64 x, .float .f64 y]] w fun e w' => Leaves2 (boolTurnOut op (i == 1)) w e w' := by
  have hn := run_neg
  by_cases h1 : op = 1
  · subst h1
    go_enter Tryd.func7, Tryd.ntmps7
    go_wp2_with (go_at_call 9; refine (specOk_any _ _ _ _ _ lx ly).mono ?_; rintro e w' ⟨rfl, rfl⟩)
    refine bodyPost_ret (v := .tuple #[.agg #[.int .i64 0, .int .i64 0, .float .f64 0, .float .f64 0], .int .i64 1]) (by simp [results, Tryd.results7, go_sem]) rfl (leaves_z rfl rfl ?_)
    (repeat (first | with_reducible exact Below.refl _ _ | with_reducible refine bl_alloc ?_ _ | with_reducible refine bl_drewN ?_ _ | with_reducible refine bl_drew ?_ | with_reducible refine bl_setCell ?_ (by first | exact Nat.le_refl _ | (dsimp only; omega) | (simp <;> omega)) _ | with_reducible refine bl_trans ?_ (by with_reducible assumption)))
  by_cases h2 : op = 2
  · subst h2
    rcases ok4' hx with rfl | rfl
    all_goals
      go_enter Tryd.func7, Tryd.ntmps7
      go_wp2_with (first | (go_at_call 9; refine (specOk_any _ _ _ _ _ lx ly).mono ?_; rintro e w' ⟨rfl, rfl⟩) | (go_at_call 25; refine (l1Bool_any _ _).mono ?_; rintro e w' ⟨rfl, rfl⟩))
      first
        | (refine bodyPost_ret (v := .tuple #[.agg #[.int .i64 4, .int .i64 (bN false), .float .f64 0, .float .f64 0], .int .i64 0]) (by simp [results, Tryd.results7, go_sem]; done) rfl (leaves_b (b := false) rfl rfl ?_); (repeat (first | with_reducible exact Below.refl _ _ | with_reducible refine bl_alloc ?_ _ | with_reducible refine bl_drewN ?_ _ | with_reducible refine bl_drew ?_ | with_reducible refine bl_setCell ?_ (by first | exact Nat.le_refl _ | (dsimp only; omega) | (simp <;> omega)) _ | with_reducible refine bl_trans ?_ (by with_reducible assumption))); done)
        | (refine bodyPost_ret (v := .tuple #[.agg #[.int .i64 4, .int .i64 (bN true), .float .f64 0, .float .f64 0], .int .i64 0]) (by simp [results, Tryd.results7, go_sem]; done) rfl (leaves_b (b := true) rfl rfl ?_); (repeat (first | with_reducible exact Below.refl _ _ | with_reducible refine bl_alloc ?_ _ | with_reducible refine bl_drewN ?_ _ | with_reducible refine bl_drew ?_ | with_reducible refine bl_setCell ?_ (by first | exact Nat.le_refl _ | (dsimp only; omega) | (simp <;> omega)) _ | with_reducible refine bl_trans ?_ (by with_reducible assumption))); done)
  by_cases h3 : op = 3
  · subst h3
    go_enter Tryd.func7, Tryd.ntmps7
    go_wp2_with (go_at_call 9; refine (specOk_any _ _ _ _ _ lx ly).mono ?_; rintro e w' ⟨rfl, rfl⟩)
    refine bodyPost_ret (v := .tuple #[.agg #[.int .i64 0, .int .i64 0, .float .f64 0, .float .f64 0], .int .i64 1]) (by simp [results, Tryd.results7, go_sem]) rfl (leaves_z rfl rfl ?_)
    (repeat (first | with_reducible exact Below.refl _ _ | with_reducible refine bl_alloc ?_ _ | with_reducible refine bl_drewN ?_ _ | with_reducible refine bl_drew ?_ | with_reducible refine bl_setCell ?_ (by first | exact Nat.le_refl _ | (dsimp only; omega) | (simp <;> omega)) _ | with_reducible refine bl_trans ?_ (by with_reducible assumption)))
  by_cases h4 : op = 4
  · subst h4
    go_enter Tryd.func7, Tryd.ntmps7
    go_wp2_with (go_at_call 9; refine (specOk_any _ _ _ _ _ lx ly).mono ?_; rintro e w' ⟨rfl, rfl⟩)
    refine bodyPost_ret (v := .tuple #[.agg #[.int .i64 0, .int .i64 0, .float .f64 0, .float .f64 0], .int .i64 1]) (by simp [results, Tryd.results7, go_sem]) rfl (leaves_z rfl rfl ?_)
    (repeat (first | with_reducible exact Below.refl _ _ | with_reducible refine bl_alloc ?_ _ | with_reducible refine bl_drewN ?_ _ | with_reducible refine bl_drew ?_ | with_reducible refine bl_setCell ?_ (by first | exact Nat.le_refl _ | (dsimp only; omega) | (simp <;> omega)) _ | with_reducible refine bl_trans ?_ (by with_reducible assumption)))
  by_cases h5 : op = 5
  · subst h5
    go_enter Tryd.func7, Tryd.ntmps7
    go_wp2_with (go_at_call 9; refine (specOk_any _ _ _ _ _ lx ly).mono ?_; rintro e w' ⟨rfl, rfl⟩)
    refine bodyPost_ret (v := .tuple #[.agg #[.int .i64 0, .int .i64 0, .float .f64 0, .float .f64 0], .int .i64 1]) (by simp [results, Tryd.results7, go_sem]) rfl (leaves_z rfl rfl ?_)
    (repeat (first | with_reducible exact Below.refl _ _ | with_reducible refine bl_alloc ?_ _ | with_reducible refine bl_drewN ?_ _ | with_reducible refine bl_drew ?_ | with_reducible refine bl_setCell ?_ (by first | exact Nat.le_refl _ | (dsimp only; omega) | (simp <;> omega)) _ | with_reducible refine bl_trans ?_ (by with_reducible assumption)))
  by_cases h6 : op = 6
  · subst h6
    go_enter Tryd.func7, Tryd.ntmps7
    go_wp2_with (go_at_call 9; refine (specOk_any _ _ _ _ _ lx ly).mono ?_; rintro e w' ⟨rfl, rfl⟩)
    refine bodyPost_ret (v := .tuple #[.agg #[.int .i64 0, .int .i64 0, .float .f64 0, .float .f64 0], .int .i64 1]) (by simp [results, Tryd.results7, go_sem]) rfl (leaves_z rfl rfl ?_)
    (repeat (first | with_reducible exact Below.refl _ _ | with_reducible refine bl_alloc ?_ _ | with_reducible refine bl_drewN ?_ _ | with_reducible refine bl_drew ?_ | with_reducible refine bl_setCell ?_ (by first | exact Nat.le_refl _ | (dsimp only; omega) | (simp <;> omega)) _ | with_reducible refine bl_trans ?_ (by with_reducible assumption)))
  have g1 : (op == 1) = false := beq_eq_false_iff_ne.2 h1
  have g2 : (op == 2) = false := beq_eq_false_iff_ne.2 h2
  have g3 : (op == 3) = false := beq_eq_false_iff_ne.2 h3
  have g4 : (op == 4) = false := beq_eq_false_iff_ne.2 h4
  have g5 : (op == 5) = false := beq_eq_false_iff_ne.2 h5
  have g6 : (op == 6) = false := beq_eq_false_iff_ne.2 h6
  have E : Hid (boolTurnOut op (i == 1) = (zV, 1)) := by simp [Hid, boolTurnOut, h1, h2, h3, h4, h5, h6]
  go_enter Tryd.func7, Tryd.ntmps7
  go_wp2_with (go_at_call 9; refine (specOk_any _ _ _ _ _ lx ly).mono ?_; rintro e w' ⟨rfl, rfl⟩)
  refine bodyPost_ret (v := .tuple #[.agg #[.int .i64 0, .int .i64 0, .float .f64 0, .float .f64 0], .int .i64 1]) (by simp [results, Tryd.results7, go_sem]) rfl (leaves_z E.out rfl ?_)
  (repeat (first | with_reducible exact Below.refl _ _ | with_reducible refine bl_alloc ?_ _ | with_reducible refine bl_drewN ?_ _ | with_reducible refine bl_drew ?_ | with_reducible refine bl_setCell ?_ (by first | exact Nat.le_refl _ | (dsimp only; omega) | (simp <;> omega)) _ | with_reducible refine bl_trans ?_ (by with_reducible assumption)))

set_option maxHeartbeats 1000000 in
theorem specTurn_any (op k i : Int) (x y : Nat) (w : World) (lx : x < 18446744073709551616) (ly : y < 18446744073709551616) :
    Calls Tryd.prog 7 #[.int .i64 op, .agg #[.int .i64 k, .int .i64 i, .float .f64 x, .float .f64 y]] w fun e w' => Leaves2 (turnOut op k i x y) w e w' := by
  cases hx : okB k i x y
  · have E : Hid (turnOut op k i x y = (zV, 1)) := by simp [Hid, turnOut, hx]
    go_enter Tryd.func7, Tryd.ntmps7
    go_wp2_with (go_at_call 9; refine (specOk_any _ _ _ _ _ lx ly).mono ?_; rintro e w' ⟨rfl, rfl⟩)
    refine bodyPost_ret (v := .tuple #[.agg #[.int .i64 0, .int .i64 0, .float .f64 0, .float .f64 0], .int .i64 1]) (by simp [results, Tryd.results7, go_sem]) rfl (leaves_z E.out rfl ?_)
    (repeat (first | with_reducible exact Below.refl _ _ | with_reducible refine bl_alloc ?_ _ | with_reducible refine bl_drewN ?_ _ | with_reducible refine bl_drew ?_ | with_reducible refine bl_setCell ?_ (by first | exact Nat.le_refl _ | (dsimp only; omega) | (simp <;> omega)) _ | with_reducible refine bl_trans ?_ (by with_reducible assumption)))
  by_cases h1 : k = 1
  · subst h1
    have E : turnOut op 1 i x y = intTurnOut op i := by simp [turnOut, hx]
    rw [E]
    exact specTurn1 op i x y w lx ly hx
  by_cases h2 : k = 2
  · subst h2
    have E : turnOut op 2 i x y = realTurnOut op x := by simp [turnOut, hx]
    rw [E]
    exact specTurn2 op i x y w lx ly hx
  by_cases h3 : k = 3
  · subst h3
    have E : turnOut op 3 i x y = pairTurnOut op x y := by simp [turnOut, hx]
    rw [E]
    exact specTurn3 op i x y w lx ly hx
  have h4 : k = 4 := by
    by_cases h : k = 4
    · exact h
    · simp [okB, h1, h2, h3, h] at hx
  subst h4
  have E : turnOut op 4 i x y = boolTurnOut op (i == 1) := by simp [turnOut, hx]
  rw [E]
  exact specTurn4 op i x y w lx ly hx
end Go.Proofs.YtmhiddepddgfgaaDoor
