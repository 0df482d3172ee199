import Derived.Test.YtijgkpkakkjkgaaWp
namespace Go.Proofs.Ytijgkpkakkjkgaa
open Go.RowKit

def mulRe (a b c d : Nat) : Option Nat := op2 .sub (floatBits .mul .f64 a c) (floatBits .mul .f64 b d)
def mulIm (a b c d : Nat) : Option Nat := op2 .add (floatBits .mul .f64 a d) (floatBits .mul .f64 b c)

set_option maxHeartbeats 1000000 in
theorem product_any (a b c d : Nat) (w : World) :
    Calls Try.prog 77 #[.complex .f64 a b, .complex .f64 c d] w fun e w' => ∃ re im n, e = .returned (.complex .f64 re im) ∧ Is (mulRe a b c d) re ∧ Is (mulIm a b c d) im ∧ w' = w.drewN n := by
  have hm := fun t x y w => run_float_any (P := Try.prog) .mul rfl t x y w
  have ha := fun t x y w => run_float_any (P := Try.prog) .add rfl t x y w
  have hs := fun t x y w => run_float_any (P := Try.prog) .sub rfl t x y w
  go_enter Try.func77, Try.ntmps77
  go_wp2
  go_ret
  exact ⟨_, _, _, rfl, Is.op2 (fres_is _ _ _ _) (fres_is _ _ _ _) (fres_is _ _ _ _), Is.op2 (fres_is _ _ _ _) (fres_is _ _ _ _) (fres_is _ _ _ _), rfl⟩

theorem run_arith_any {P : Program} (op : BinOp) (h4 : arith4 op = true) (x y : Nat) (w : World) :
    (Op.Complex.arith op .f64 x y).run P w = .ok (fres op x y w) (w.drewN (fdraw op x y)) := by
  have h := run_float_any (P := P) op h4 0 x y w
  have e : binOp op 0 (.float .f64 x) (.float .f64 y) = Op.floatArith op .f64 x y := by
    cases op <;> first | (cases h4; done) | rfl
  rw [e] at h
  simp [Op.Complex.arith, h]

theorem run_csum_any {P : Program} (op : BinOp) (hop : op = .add ∨ op = .sub) (t : TypeId) (a b c d : Nat) (w : World) :
    (binOp op t (.complex .f64 a b) (.complex .f64 c d)).run P w = .ok (.complex .f64 (fres op a c w) (fres op b d (w.drewN (fdraw op a c)))) ((w.drewN (fdraw op a c)).drewN (fdraw op b d)) := by
  rcases hop with rfl | rfl
  · simp [binOp, Op.complexOp, run_arith_any .add rfl]
  · simp [binOp, Op.complexOp, run_arith_any .sub rfl]

def pairOut (op : Int) (a b c d : Nat) : V × Int :=
  if op = 1 then (pV (floatBits .add .f64 a c) (floatBits .add .f64 b d), 0) else if op = 2 then (pV (floatBits .sub .f64 a c) (floatBits .sub .f64 b d), 0)
  else if op = 3 then (pV (mulRe a b c d) (mulIm a b c d), 0)
  else if op = 7 then (bV (FloatKind.f64.format.order a c == some Ordering.eq && FloatKind.f64.format.order b d == some Ordering.eq), 0) else (zV, 1)

set_option maxHeartbeats 1000000 in
theorem pairOp_any (op : Int) (a b c d : Nat) (w : World) :
    Calls Try.prog 48 #[.int .i64 op, .complex .f64 a b, .complex .f64 c d] w fun e w' => Leaves2 (pairOut op a b c d) w e w' := by
  by_cases h1 : op = 1
  · subst h1
    have hf := fun t w => run_csum_any (P := Try.prog) .add (by simp) t a b c d w
    go_enter Try.func48, Try.ntmps48
    go_wp2_with (go_at_call 76; refine (pairVal_any _ _ _).mono ?_; rintro e w' ⟨rfl, rfl⟩)
    refine bodyPost_ret (v := .tuple #[.agg #[.int .i64 3, .int .i64 0, .float .f64 (fres .add a c _), .float .f64 (fres .add b d _)], .int .i64 0]) (by simp [results, Try.results48, go_sem]; exact ⟨rfl, rfl⟩) rfl (leaves_p rfl (fres_is _ _ _ _) (fres_is _ _ _ _) rfl ?_)
    (repeat (first | with_reducible exact Below.refl _ _ | with_reducible refine bl_alloc ?_ _ | with_reducible refine bl_drewN ?_ _ | with_reducible refine bl_drew ?_ | with_reducible refine bl_setCell ?_ (by first | exact Nat.le_refl _ | (dsimp only; omega) | (simp <;> omega)) _ | with_reducible refine bl_trans ?_ (by with_reducible assumption)))
  by_cases h2 : op = 2
  · subst h2
    have hf := fun t w => run_csum_any (P := Try.prog) .sub (by simp) t a b c d w
    go_enter Try.func48, Try.ntmps48
    go_wp2_with (go_at_call 76; refine (pairVal_any _ _ _).mono ?_; rintro e w' ⟨rfl, rfl⟩)
    refine bodyPost_ret (v := .tuple #[.agg #[.int .i64 3, .int .i64 0, .float .f64 (fres .sub a c _), .float .f64 (fres .sub b d _)], .int .i64 0]) (by simp [results, Try.results48, go_sem]; exact ⟨rfl, rfl⟩) rfl (leaves_p rfl (fres_is _ _ _ _) (fres_is _ _ _ _) rfl ?_)
    (repeat (first | with_reducible exact Below.refl _ _ | with_reducible refine bl_alloc ?_ _ | with_reducible refine bl_drewN ?_ _ | with_reducible refine bl_drew ?_ | with_reducible refine bl_setCell ?_ (by first | exact Nat.le_refl _ | (dsimp only; omega) | (simp <;> omega)) _ | with_reducible refine bl_trans ?_ (by with_reducible assumption)))
  by_cases h3 : op = 3
  · subst h3
    go_enter Try.func48, Try.ntmps48
    go_wp2_with fail
    refine (product_any _ _ _ _ _).mono ?_
    rintro e w' ⟨re, im, n, rfl, hre, him, rfl⟩
    go_wp2_with (go_at_call 76; refine (pairVal_any _ _ _).mono ?_; rintro e w' ⟨rfl, rfl⟩)
    refine bodyPost_ret (v := .tuple #[.agg #[.int .i64 3, .int .i64 0, .float .f64 re, .float .f64 im], .int .i64 0]) (by simp [results, Try.results48, go_sem]) rfl (leaves_p rfl hre him rfl ?_)
    (repeat (first | with_reducible exact Below.refl _ _ | with_reducible refine bl_alloc ?_ _ | with_reducible refine bl_drewN ?_ _ | with_reducible refine bl_drew ?_ | with_reducible refine bl_setCell ?_ (by first | exact Nat.le_refl _ | (dsimp only; omega) | (simp <;> omega)) _ | with_reducible refine bl_trans ?_ (by with_reducible assumption)))
  by_cases h7 : op = 7
  · subst h7
    go_enter Try.func48, Try.ntmps48
    go_wp2_with (go_at_call 74; refine (boolVal_any _ _).mono ?_; rintro e w' ⟨rfl, rfl⟩)
    refine bodyPost_ret (v := .tuple #[.agg #[.int .i64 4, .int .i64 (bN (FloatKind.f64.format.order a c == some Ordering.eq && FloatKind.f64.format.order b d == some Ordering.eq)), .float .f64 0, .float .f64 0], .int .i64 0]) (by simp [results, Try.results48, go_sem]) rfl (leaves_b rfl rfl ?_)
    (repeat (first | with_reducible exact Below.refl _ _ | with_reducible refine bl_alloc ?_ _ | with_reducible refine bl_drewN ?_ _ | with_reducible refine bl_drew ?_ | with_reducible refine bl_setCell ?_ (by first | exact Nat.le_refl _ | (dsimp only; omega) | (simp <;> omega)) _ | with_reducible refine bl_trans ?_ (by with_reducible assumption)))
  have g1 : (op == 1) = false := beq_eq_false_iff_ne.2 h1
  have g2 : (op == 2) = false := beq_eq_false_iff_ne.2 h2
  have g3 : (op == 3) = false := beq_eq_false_iff_ne.2 h3
  have g7 : (op == 7) = false := beq_eq_false_iff_ne.2 h7
  have E : Hid (pairOut op a b c d = (zV, 1)) := by simp [Hid, pairOut, h1, h2, h3, h7]
  go_enter Try.func48, Try.ntmps48
  go_wp2_with fail
  refine bodyPost_ret (v := .tuple #[.agg #[.int .i64 0, .int .i64 0, .float .f64 0, .float .f64 0], .int .i64 1]) (by simp [results, Try.results48, go_sem]) rfl (leaves_z E.out rfl ?_)
  (repeat (first | with_reducible exact Below.refl _ _ | with_reducible refine bl_alloc ?_ _ | with_reducible refine bl_drewN ?_ _ | with_reducible refine bl_drew ?_ | with_reducible refine bl_setCell ?_ (by first | exact Nat.le_refl _ | (dsimp only; omega) | (simp <;> omega)) _ | with_reducible refine bl_trans ?_ (by with_reducible assumption)))

def boolOut (op : Int) (a b : Bool) : V × Int :=
  if op = 7 then (bV (a == b), 0) else if op = 8 then (bV (a && b), 0) else if op = 9 then (bV (a || b), 0) else (zV, 1)

set_option maxHeartbeats 1000000 in
theorem boolOp_any (op : Int) (a b : Bool) (w : World) :
    Calls Try.prog 50 #[.int .i64 op, .bool a, .bool b] w fun e w' => Leaves2 (boolOut op a b) w e w' := by
  by_cases h7 : op = 7
  · subst h7
    cases a <;> cases b
    all_goals
      go_enter Try.func50, Try.ntmps50
      go_wp2_with (go_at_call 74; refine (boolVal_any _ _).mono ?_; rintro e w' ⟨rfl, rfl⟩)
      first
        | (refine bodyPost_ret (v := .tuple #[.agg #[.int .i64 4, .int .i64 (bN false), .float .f64 0, .float .f64 0], .int .i64 0]) (by simp [results, Try.results50, go_sem]; done) rfl (leaves_b (b := false) rfl rfl ?_); (repeat (first | with_reducible exact Below.refl _ _ | with_reducible refine bl_alloc ?_ _ | with_reducible refine bl_drewN ?_ _ | with_reducible refine bl_drew ?_ | with_reducible refine bl_setCell ?_ (by first | exact Nat.le_refl _ | (dsimp only; omega) | (simp <;> omega)) _ | with_reducible refine bl_trans ?_ (by with_reducible assumption))); done)
        | (refine bodyPost_ret (v := .tuple #[.agg #[.int .i64 4, .int .i64 (bN true), .float .f64 0, .float .f64 0], .int .i64 0]) (by simp [results, Try.results50, go_sem]; done) rfl (leaves_b (b := true) rfl rfl ?_); (repeat (first | with_reducible exact Below.refl _ _ | with_reducible refine bl_alloc ?_ _ | with_reducible refine bl_drewN ?_ _ | with_reducible refine bl_drew ?_ | with_reducible refine bl_setCell ?_ (by first | exact Nat.le_refl _ | (dsimp only; omega) | (simp <;> omega)) _ | with_reducible refine bl_trans ?_ (by with_reducible assumption))); done)
  by_cases h8 : op = 8
  · subst h8
    cases a <;> cases b
    all_goals
      go_enter Try.func50, Try.ntmps50
      go_wp2_with (go_at_call 74; refine (boolVal_any _ _).mono ?_; rintro e w' ⟨rfl, rfl⟩)
      first
        | (refine bodyPost_ret (v := .tuple #[.agg #[.int .i64 4, .int .i64 (bN false), .float .f64 0, .float .f64 0], .int .i64 0]) (by simp [results, Try.results50, go_sem]; done) rfl (leaves_b (b := false) rfl rfl ?_); (repeat (first | with_reducible exact Below.refl _ _ | with_reducible refine bl_alloc ?_ _ | with_reducible refine bl_drewN ?_ _ | with_reducible refine bl_drew ?_ | with_reducible refine bl_setCell ?_ (by first | exact Nat.le_refl _ | (dsimp only; omega) | (simp <;> omega)) _ | with_reducible refine bl_trans ?_ (by with_reducible assumption))); done)
        | (refine bodyPost_ret (v := .tuple #[.agg #[.int .i64 4, .int .i64 (bN true), .float .f64 0, .float .f64 0], .int .i64 0]) (by simp [results, Try.results50, go_sem]; done) rfl (leaves_b (b := true) rfl rfl ?_); (repeat (first | with_reducible exact Below.refl _ _ | with_reducible refine bl_alloc ?_ _ | with_reducible refine bl_drewN ?_ _ | with_reducible refine bl_drew ?_ | with_reducible refine bl_setCell ?_ (by first | exact Nat.le_refl _ | (dsimp only; omega) | (simp <;> omega)) _ | with_reducible refine bl_trans ?_ (by with_reducible assumption))); done)
  by_cases h9 : op = 9
  · subst h9
    cases a <;> cases b
    all_goals
      go_enter Try.func50, Try.ntmps50
      go_wp2_with (go_at_call 74; refine (boolVal_any _ _).mono ?_; rintro e w' ⟨rfl, rfl⟩)
      first
        | (refine bodyPost_ret (v := .tuple #[.agg #[.int .i64 4, .int .i64 (bN false), .float .f64 0, .float .f64 0], .int .i64 0]) (by simp [results, Try.results50, go_sem]; done) rfl (leaves_b (b := false) rfl rfl ?_); (repeat (first | with_reducible exact Below.refl _ _ | with_reducible refine bl_alloc ?_ _ | with_reducible refine bl_drewN ?_ _ | with_reducible refine bl_drew ?_ | with_reducible refine bl_setCell ?_ (by first | exact Nat.le_refl _ | (dsimp only; omega) | (simp <;> omega)) _ | with_reducible refine bl_trans ?_ (by with_reducible assumption))); done)
        | (refine bodyPost_ret (v := .tuple #[.agg #[.int .i64 4, .int .i64 (bN true), .float .f64 0, .float .f64 0], .int .i64 0]) (by simp [results, Try.results50, go_sem]; done) rfl (leaves_b (b := true) rfl rfl ?_); (repeat (first | with_reducible exact Below.refl _ _ | with_reducible refine bl_alloc ?_ _ | with_reducible refine bl_drewN ?_ _ | with_reducible refine bl_drew ?_ | with_reducible refine bl_setCell ?_ (by first | exact Nat.le_refl _ | (dsimp only; omega) | (simp <;> omega)) _ | with_reducible refine bl_trans ?_ (by with_reducible assumption))); done)
  have g7 : (op == 7) = false := beq_eq_false_iff_ne.2 h7
  have g8 : (op == 8) = false := beq_eq_false_iff_ne.2 h8
  have g9 : (op == 9) = false := beq_eq_false_iff_ne.2 h9
  have E : Hid (boolOut op a b = (zV, 1)) := by simp [Hid, boolOut, h7, h8, h9]
  go_enter Try.func50, Try.ntmps50
  go_wp2_with fail
  refine bodyPost_ret (v := .tuple #[.agg #[.int .i64 0, .int .i64 0, .float .f64 0, .float .f64 0], .int .i64 1]) (by simp [results, Try.results50, go_sem]) rfl (leaves_z E.out rfl ?_)
  (repeat (first | with_reducible exact Below.refl _ _ | with_reducible refine bl_alloc ?_ _ | with_reducible refine bl_drewN ?_ _ | with_reducible refine bl_drew ?_ | with_reducible refine bl_setCell ?_ (by first | exact Nat.le_refl _ | (dsimp only; omega) | (simp <;> omega)) _ | with_reducible refine bl_trans ?_ (by with_reducible assumption)))
end Go.Proofs.Ytijgkpkakkjkgaa
