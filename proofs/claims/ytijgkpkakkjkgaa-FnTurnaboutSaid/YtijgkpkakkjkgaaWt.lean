import Derived.Test.YtijgkpkakkjkgaaWq
namespace Go.Proofs.Ytijgkpkakkjkgaa
open Go.RowKit

set_option maxHeartbeats 1000000 in
theorem l1Real_any (op : Int) (a b : Nat) (w : World) :
    Calls Try.prog 52 #[.int .i64 op, .float .f64 a, .float .f64 b] w fun e w' => Leaves2 (realOut op a b) w e w' := by
  by_cases h1 : op = 1
  · subst h1
    have hf := fun t w => run_float_any (P := Try.prog) .add rfl t a b w
    go_enter Try.func52, Try.ntmps52
    go_wp2_with fail
    refine bodyPost_ret (v := .tuple #[.agg #[.int .i64 2, .int .i64 0, .float .f64 (fres .add a b _), .float .f64 0], .int .i64 0]) (by simp [results, Try.results52, go_sem]; rfl) rfl (leaves_r rfl (fres_is _ _ _ _) rfl ?_)
    (repeat (first | with_reducible exact Below.refl _ _ | with_reducible refine bl_alloc ?_ _ | with_reducible refine bl_drewN ?_ _ | with_reducible refine bl_drew ?_ | with_reducible refine bl_setCell ?_ (by first | exact Nat.le_refl _ | (dsimp only; omega) | (simp <;> omega)) _ | with_reducible refine bl_trans ?_ (by with_reducible assumption)))
  by_cases h2 : op = 2
  · subst h2
    have hf := fun t w => run_float_any (P := Try.prog) .sub rfl t a b w
    go_enter Try.func52, Try.ntmps52
    go_wp2_with fail
    refine bodyPost_ret (v := .tuple #[.agg #[.int .i64 2, .int .i64 0, .float .f64 (fres .sub a b _), .float .f64 0], .int .i64 0]) (by simp [results, Try.results52, go_sem]; rfl) rfl (leaves_r rfl (fres_is _ _ _ _) rfl ?_)
    (repeat (first | with_reducible exact Below.refl _ _ | with_reducible refine bl_alloc ?_ _ | with_reducible refine bl_drewN ?_ _ | with_reducible refine bl_drew ?_ | with_reducible refine bl_setCell ?_ (by first | exact Nat.le_refl _ | (dsimp only; omega) | (simp <;> omega)) _ | with_reducible refine bl_trans ?_ (by with_reducible assumption)))
  by_cases h3 : op = 3
  · subst h3
    have hf := fun t w => run_float_any (P := Try.prog) .mul rfl t a b w
    go_enter Try.func52, Try.ntmps52
    go_wp2_with fail
    refine bodyPost_ret (v := .tuple #[.agg #[.int .i64 2, .int .i64 0, .float .f64 (fres .mul a b _), .float .f64 0], .int .i64 0]) (by simp [results, Try.results52, go_sem]; rfl) rfl (leaves_r rfl (fres_is _ _ _ _) rfl ?_)
    (repeat (first | with_reducible exact Below.refl _ _ | with_reducible refine bl_alloc ?_ _ | with_reducible refine bl_drewN ?_ _ | with_reducible refine bl_drew ?_ | with_reducible refine bl_setCell ?_ (by first | exact Nat.le_refl _ | (dsimp only; omega) | (simp <;> omega)) _ | with_reducible refine bl_trans ?_ (by with_reducible assumption)))
  by_cases h4 : op = 4
  · subst h4
    have hf := fun t w => run_float_any (P := Try.prog) .quo rfl t a b w
    go_enter Try.func52, Try.ntmps52
    go_wp2_with fail
    refine bodyPost_ret (v := .tuple #[.agg #[.int .i64 2, .int .i64 0, .float .f64 (fres .quo a b _), .float .f64 0], .int .i64 0]) (by simp [results, Try.results52, go_sem]; rfl) rfl (leaves_r rfl (fres_is _ _ _ _) rfl ?_)
    (repeat (first | with_reducible exact Below.refl _ _ | with_reducible refine bl_alloc ?_ _ | with_reducible refine bl_drewN ?_ _ | with_reducible refine bl_drew ?_ | with_reducible refine bl_setCell ?_ (by first | exact Nat.le_refl _ | (dsimp only; omega) | (simp <;> omega)) _ | with_reducible refine bl_trans ?_ (by with_reducible assumption)))
  by_cases h6 : op = 6
  · subst h6
    go_enter Try.func52, Try.ntmps52
    go_wp2_with (go_at_call 54; refine (l1Bool_any _ _).mono ?_; rintro e w' ⟨rfl, rfl⟩)
    refine bodyPost_ret (v := .tuple #[.agg #[.int .i64 4, .int .i64 (bN (FloatKind.f64.format.order a b == some Ordering.lt)), .float .f64 0, .float .f64 0], .int .i64 0]) (by simp [results, Try.results52, go_sem]) rfl (leaves_b rfl rfl ?_)
    (repeat (first | with_reducible exact Below.refl _ _ | with_reducible refine bl_alloc ?_ _ | with_reducible refine bl_drewN ?_ _ | with_reducible refine bl_drew ?_ | with_reducible refine bl_setCell ?_ (by first | exact Nat.le_refl _ | (dsimp only; omega) | (simp <;> omega)) _ | with_reducible refine bl_trans ?_ (by with_reducible assumption)))
  by_cases h7 : op = 7
  · subst h7
    go_enter Try.func52, Try.ntmps52
    go_wp2_with (go_at_call 54; refine (l1Bool_any _ _).mono ?_; rintro e w' ⟨rfl, rfl⟩)
    refine bodyPost_ret (v := .tuple #[.agg #[.int .i64 4, .int .i64 (bN (FloatKind.f64.format.order a b == some Ordering.eq)), .float .f64 0, .float .f64 0], .int .i64 0]) (by simp [results, Try.results52, go_sem]) rfl (leaves_b rfl rfl ?_)
    (repeat (first | with_reducible exact Below.refl _ _ | with_reducible refine bl_alloc ?_ _ | with_reducible refine bl_drewN ?_ _ | with_reducible refine bl_drew ?_ | with_reducible refine bl_setCell ?_ (by first | exact Nat.le_refl _ | (dsimp only; omega) | (simp <;> omega)) _ | with_reducible refine bl_trans ?_ (by with_reducible assumption)))
  have g1 : (op == 1) = false := beq_eq_false_iff_ne.2 h1
  have g2 : (op == 2) = false := beq_eq_false_iff_ne.2 h2
  have g3 : (op == 3) = false := beq_eq_false_iff_ne.2 h3
  have g4 : (op == 4) = false := beq_eq_false_iff_ne.2 h4
  have g6 : (op == 6) = false := beq_eq_false_iff_ne.2 h6
  have g7 : (op == 7) = false := beq_eq_false_iff_ne.2 h7
  have E : Hid (realOut op a b = (zV, 1)) := by simp [Hid, realOut, h1, h2, h3, h4, h6, h7]
  go_enter Try.func52, Try.ntmps52
  go_wp2_with fail
  refine bodyPost_ret (v := .tuple #[.agg #[.int .i64 0, .int .i64 0, .float .f64 0, .float .f64 0], .int .i64 1]) (by simp [results, Try.results52, go_sem]) rfl (leaves_z E.out rfl ?_)
  (repeat (first | with_reducible exact Below.refl _ _ | with_reducible refine bl_alloc ?_ _ | with_reducible refine bl_drewN ?_ _ | with_reducible refine bl_drew ?_ | with_reducible refine bl_setCell ?_ (by first | exact Nat.le_refl _ | (dsimp only; omega) | (simp <;> omega)) _ | with_reducible refine bl_trans ?_ (by with_reducible assumption)))

set_option maxHeartbeats 1000000 in
theorem l1Pair_any (op k i : Int) (x y : Nat) (l j : Int) (u v : Nat) (w : World) :
    Calls Try.prog 53 #[.int .i64 op, .agg #[.int .i64 k, .int .i64 i, .float .f64 x, .float .f64 y], .agg #[.int .i64 l, .int .i64 j, .float .f64 u, .float .f64 v]] w fun e w' => Leaves2 (pairOut op x y u v) w e w' := by
  by_cases h1 : op = 1
  · subst h1
    have hf := fun t x y w => run_float_any (P := Try.prog) .add rfl t x y w
    go_enter Try.func53, Try.ntmps53
    go_wp2_with fail
    refine bodyPost_ret (v := .tuple #[.agg #[.int .i64 3, .int .i64 0, .float .f64 (fres .add x u _), .float .f64 (fres .add y v _)], .int .i64 0]) (by simp [results, Try.results53, go_sem]; exact ⟨rfl, rfl⟩) rfl (leaves_p rfl (fres_is _ _ _ _) (fres_is _ _ _ _) rfl ?_)
    (repeat (first | with_reducible exact Below.refl _ _ | with_reducible refine bl_alloc ?_ _ | with_reducible refine bl_drewN ?_ _ | with_reducible refine bl_drew ?_ | with_reducible refine bl_setCell ?_ (by first | exact Nat.le_refl _ | (dsimp only; omega) | (simp <;> omega)) _ | with_reducible refine bl_trans ?_ (by with_reducible assumption)))
  by_cases h2 : op = 2
  · subst h2
    have hf := fun t x y w => run_float_any (P := Try.prog) .sub rfl t x y w
    go_enter Try.func53, Try.ntmps53
    go_wp2_with fail
    refine bodyPost_ret (v := .tuple #[.agg #[.int .i64 3, .int .i64 0, .float .f64 (fres .sub x u _), .float .f64 (fres .sub y v _)], .int .i64 0]) (by simp [results, Try.results53, go_sem]; exact ⟨rfl, rfl⟩) rfl (leaves_p rfl (fres_is _ _ _ _) (fres_is _ _ _ _) rfl ?_)
    (repeat (first | with_reducible exact Below.refl _ _ | with_reducible refine bl_alloc ?_ _ | with_reducible refine bl_drewN ?_ _ | with_reducible refine bl_drew ?_ | with_reducible refine bl_setCell ?_ (by first | exact Nat.le_refl _ | (dsimp only; omega) | (simp <;> omega)) _ | with_reducible refine bl_trans ?_ (by with_reducible assumption)))
  by_cases h3 : op = 3
  · subst h3
    have hm := fun t x y w => run_float_any (P := Try.prog) .mul rfl t x y w
    have ha := fun t x y w => run_float_any (P := Try.prog) .add rfl t x y w
    have hs := fun t x y w => run_float_any (P := Try.prog) .sub rfl t x y w
    go_enter Try.func53, Try.ntmps53
    go_wp2_with fail
    refine bodyPost_ret (v := .tuple #[.agg #[.int .i64 3, .int .i64 0, .float .f64 (fres .sub (fres .mul x u _) (fres .mul y v _) _), .float .f64 (fres .add (fres .mul x v _) (fres .mul y u _) _)], .int .i64 0]) (by simp [results, Try.results53, go_sem]; exact ⟨rfl, rfl⟩) rfl (leaves_p rfl (Is.op2 (fres_is _ _ _ _) (fres_is _ _ _ _) (fres_is _ _ _ _)) (Is.op2 (fres_is _ _ _ _) (fres_is _ _ _ _) (fres_is _ _ _ _)) rfl ?_)
    (repeat (first | with_reducible exact Below.refl _ _ | with_reducible refine bl_alloc ?_ _ | with_reducible refine bl_drewN ?_ _ | with_reducible refine bl_drew ?_ | with_reducible refine bl_setCell ?_ (by first | exact Nat.le_refl _ | (dsimp only; omega) | (simp <;> omega)) _ | with_reducible refine bl_trans ?_ (by with_reducible assumption)))
  by_cases h7 : op = 7
  · subst h7
    cases he : (FloatKind.f64.format.order x u == some Ordering.eq)
    · have E : Hid (pairOut 7 x y u v = (bV false, 0)) := by simp [Hid, pairOut, he]
      go_enter Try.func53, Try.ntmps53
      go_wp2_with (go_at_call 54; refine (l1Bool_any _ _).mono ?_; rintro e w' ⟨rfl, rfl⟩)
      refine bodyPost_ret (v := .tuple #[.agg #[.int .i64 4, .int .i64 (bN false), .float .f64 0, .float .f64 0], .int .i64 0]) (by simp [results, Try.results53, go_sem]) rfl (leaves_b E.out rfl ?_)
      (repeat (first | with_reducible exact Below.refl _ _ | with_reducible refine bl_alloc ?_ _ | with_reducible refine bl_drewN ?_ _ | with_reducible refine bl_drew ?_ | with_reducible refine bl_setCell ?_ (by first | exact Nat.le_refl _ | (dsimp only; omega) | (simp <;> omega)) _ | with_reducible refine bl_trans ?_ (by with_reducible assumption)))
    · have E : Hid (pairOut 7 x y u v = (bV (FloatKind.f64.format.order y v == some Ordering.eq), 0)) := by simp [Hid, pairOut, he]
      go_enter Try.func53, Try.ntmps53
      go_wp2_with (go_at_call 54; refine (l1Bool_any _ _).mono ?_; rintro e w' ⟨rfl, rfl⟩)
      refine bodyPost_ret (v := .tuple #[.agg #[.int .i64 4, .int .i64 (bN (FloatKind.f64.format.order y v == some Ordering.eq)), .float .f64 0, .float .f64 0], .int .i64 0]) (by simp [results, Try.results53, go_sem]) rfl (leaves_b E.out rfl ?_)
      (repeat (first | with_reducible exact Below.refl _ _ | with_reducible refine bl_alloc ?_ _ | with_reducible refine bl_drewN ?_ _ | with_reducible refine bl_drew ?_ | with_reducible refine bl_setCell ?_ (by first | exact Nat.le_refl _ | (dsimp only; omega) | (simp <;> omega)) _ | with_reducible refine bl_trans ?_ (by with_reducible assumption)))
  have g1 : (op == 1) = false := beq_eq_false_iff_ne.2 h1
  have g2 : (op == 2) = false := beq_eq_false_iff_ne.2 h2
  have g3 : (op == 3) = false := beq_eq_false_iff_ne.2 h3
  have g7 : (op == 7) = false := beq_eq_false_iff_ne.2 h7
  have E : Hid (pairOut op x y u v = (zV, 1)) := by simp [Hid, pairOut, h1, h2, h3, h7]
  go_enter Try.func53, Try.ntmps53
  go_wp2_with fail
  refine bodyPost_ret (v := .tuple #[.agg #[.int .i64 0, .int .i64 0, .float .f64 0, .float .f64 0], .int .i64 1]) (by simp [results, Try.results53, go_sem]) rfl (leaves_z E.out rfl ?_)
  (repeat (first | with_reducible exact Below.refl _ _ | with_reducible refine bl_alloc ?_ _ | with_reducible refine bl_drewN ?_ _ | with_reducible refine bl_drew ?_ | with_reducible refine bl_setCell ?_ (by first | exact Nat.le_refl _ | (dsimp only; omega) | (simp <;> omega)) _ | with_reducible refine bl_trans ?_ (by with_reducible assumption)))
end Go.Proofs.Ytijgkpkakkjkgaa
