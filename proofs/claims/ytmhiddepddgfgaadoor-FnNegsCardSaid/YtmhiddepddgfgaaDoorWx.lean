import Derived.Test.YtmhiddepddgfgaaDoorWq
namespace Go.Proofs.YtmhiddepddgfgaaDoor
open Go.RowKit

/-- the word with the other sign. -/
def negF (x : Nat) : Nat := x ^^^ 9223372036854775808

theorem negF_lt {x : Nat} (h : x < 18446744073709551616) : negF x < 18446744073709551616 := by
  unfold negF; exact Nat.xor_lt_two_pow (n := 64) h (by decide)

theorem run_neg (x : Nat) (w : World) : (Op.unary .neg (.float .f64 x)).run Tryd.prog w = .ok (.float .f64 (negF x)) w := rfl
theorem run_cneg (x y : Nat) (w : World) : (Op.unary .neg (.complex .f64 x y)).run Tryd.prog w = .ok (.complex .f64 (negF x) (negF y)) w := rfl

theorem ofInt_lt (n : Int) : floatOfInt .f64 n < 18446744073709551616 := by
  have := floatOfInt_wf .f64 n
  simpa [Lit.wf] using this

def sizeF (x y : Nat) : Option Nat := op2 .add (floatBits .mul .f64 x x) (floatBits .mul .f64 y y)

def intTurnOut (op i : Int) : V × Int :=
  if op = 1 then (iV (wrap64 (-i)), 0) else if op = 5 then (rV (some (floatOfInt .f64 i)), 0) else (zV, 1)
def realTurnOut (op : Int) (x : Nat) : V × Int := if op = 1 then (rV (some (negF x)), 0) else (zV, 1)
def pairTurnOut (op : Int) (x y : Nat) : V × Int :=
  if op = 1 then (pV (some (negF x)) (some (negF y)), 0) else if op = 3 then (rV (some x), 0) else if op = 4 then (rV (some y), 0) else if op = 6 then (rV (sizeF x y), 0) else (zV, 1)
def boolTurnOut (op : Int) (b : Bool) : V × Int := if op = 2 then (bV (!b), 0) else (zV, 1)
def turnOut (op k i : Int) (x y : Nat) : V × Int :=
  if okB k i x y = true then
    if k = 1 then intTurnOut op i else if k = 2 then realTurnOut op x else if k = 3 then pairTurnOut op x y else boolTurnOut op (i == 1)
  else (zV, 1)

set_option maxHeartbeats 1000000 in
theorem intTurn_any (op i : Int) (w : World) :
    Calls Tryd.prog 20 #[.int .i64 op, .int .i64 i] w fun e w' => Leaves2 (intTurnOut op i) w e w' := by
  by_cases h1 : op = 1
  · subst h1
    go_enter Tryd.func20, Tryd.ntmps20
    go_wp2_with (go_at_call 36; refine (intVal_any _ _).mono ?_; rintro e w' ⟨rfl, rfl⟩)
    refine bodyPost_ret (v := .tuple #[.agg #[.int .i64 1, .int .i64 (wrap64 (-i)), .float .f64 0, .float .f64 0], .int .i64 0]) (by simp [results, Tryd.results20, go_sem]) rfl (leaves_i rfl rfl ?_)
    (repeat (first | with_reducible exact Below.refl _ _ | with_reducible refine bl_alloc ?_ _ | with_reducible refine bl_drewN ?_ _ | with_reducible refine bl_drew ?_ | with_reducible refine bl_setCell ?_ (by first | exact Nat.le_refl _ | (dsimp only; omega) | (simp <;> omega)) _ | with_reducible refine bl_trans ?_ (by with_reducible assumption)))
  by_cases h5 : op = 5
  · subst h5
    go_enter Tryd.func20, Tryd.ntmps20
    go_wp2_with (go_at_call 37; refine (realVal_any _ _).mono ?_; rintro e w' ⟨rfl, rfl⟩)
    refine bodyPost_ret (v := .tuple #[.agg #[.int .i64 2, .int .i64 0, .float .f64 (floatOfInt .f64 i), .float .f64 0], .int .i64 0]) (by simp [results, Tryd.results20, go_sem]) rfl (leaves_r rfl (is_some (ofInt_lt i)) rfl ?_)
    (repeat (first | with_reducible exact Below.refl _ _ | with_reducible refine bl_alloc ?_ _ | with_reducible refine bl_drewN ?_ _ | with_reducible refine bl_drew ?_ | with_reducible refine bl_setCell ?_ (by first | exact Nat.le_refl _ | (dsimp only; omega) | (simp <;> omega)) _ | with_reducible refine bl_trans ?_ (by with_reducible assumption)))
  have g1 : (op == 1) = false := beq_eq_false_iff_ne.2 h1
  have g5 : (op == 5) = false := beq_eq_false_iff_ne.2 h5
  have E : Hid (intTurnOut op i = (zV, 1)) := by simp [Hid, intTurnOut, h1, h5]
  go_enter Tryd.func20, Tryd.ntmps20
  go_wp2_with fail
  refine bodyPost_ret (v := .tuple #[.agg #[.int .i64 0, .int .i64 0, .float .f64 0, .float .f64 0], .int .i64 1]) (by simp [results, Tryd.results20, go_sem]) rfl (leaves_z E.out rfl ?_)
  (repeat (first | with_reducible exact Below.refl _ _ | with_reducible refine bl_alloc ?_ _ | with_reducible refine bl_drewN ?_ _ | with_reducible refine bl_drew ?_ | with_reducible refine bl_setCell ?_ (by first | exact Nat.le_refl _ | (dsimp only; omega) | (simp <;> omega)) _ | with_reducible refine bl_trans ?_ (by with_reducible assumption)))

set_option maxHeartbeats 1000000 in
theorem realTurn_any (op : Int) (x : Nat) (w : World) (lx : x < 18446744073709551616) :
    Calls Tryd.prog 21 #[.int .i64 op, .float .f64 x] w fun e w' => Leaves2 (realTurnOut op x) w e w' := by
  have hn := run_neg
  by_cases h1 : op = 1
  · subst h1
    go_enter Tryd.func21, Tryd.ntmps21
    go_wp2_with (go_at_call 37; refine (realVal_any _ _).mono ?_; rintro e w' ⟨rfl, rfl⟩)
    refine bodyPost_ret (v := .tuple #[.agg #[.int .i64 2, .int .i64 0, .float .f64 (negF x), .float .f64 0], .int .i64 0]) (by simp [results, Tryd.results21, go_sem]) rfl (leaves_r rfl (is_some (negF_lt lx)) rfl ?_)
    (repeat (first | with_reducible exact Below.refl _ _ | with_reducible refine bl_alloc ?_ _ | with_reducible refine bl_drewN ?_ _ | with_reducible refine bl_drew ?_ | with_reducible refine bl_setCell ?_ (by first | exact Nat.le_refl _ | (dsimp only; omega) | (simp <;> omega)) _ | with_reducible refine bl_trans ?_ (by with_reducible assumption)))
  have g1 : (op == 1) = false := beq_eq_false_iff_ne.2 h1
  have E : Hid (realTurnOut op x = (zV, 1)) := by simp [Hid, realTurnOut, h1]
  go_enter Tryd.func21, Tryd.ntmps21
  go_wp2_with fail
  refine bodyPost_ret (v := .tuple #[.agg #[.int .i64 0, .int .i64 0, .float .f64 0, .float .f64 0], .int .i64 1]) (by simp [results, Tryd.results21, go_sem]) rfl (leaves_z E.out rfl ?_)
  (repeat (first | with_reducible exact Below.refl _ _ | with_reducible refine bl_alloc ?_ _ | with_reducible refine bl_drewN ?_ _ | with_reducible refine bl_drew ?_ | with_reducible refine bl_setCell ?_ (by first | exact Nat.le_refl _ | (dsimp only; omega) | (simp <;> omega)) _ | with_reducible refine bl_trans ?_ (by with_reducible assumption)))

set_option maxHeartbeats 1000000 in
theorem pairSize_any (a b : Nat) (w : World) :
    Calls Tryd.prog 38 #[.complex .f64 a b] w fun e w' => ∃ r n, e = .returned (.float .f64 r) ∧ Is (sizeF a b) r ∧ w' = w.drewN n := by
  have hm := fun t x y w => run_float_any (P := Tryd.prog) .mul rfl t x y w
  have ha := fun t x y w => run_float_any (P := Tryd.prog) .add rfl t x y w
  go_enter Tryd.func38, Tryd.ntmps38
  go_wp2
  go_ret
  exact ⟨_, _, rfl, Is.op2 (fres_is _ _ _ _) (fres_is _ _ _ _) (fres_is _ _ _ _), rfl⟩

set_option maxHeartbeats 1000000 in
theorem pairTurn_any (op : Int) (x y : Nat) (w : World) (lx : x < 18446744073709551616) (ly : y < 18446744073709551616) :
    Calls Tryd.prog 22 #[.int .i64 op, .complex .f64 x y] w fun e w' => Leaves2 (pairTurnOut op x y) w e w' := by
  have hn := run_cneg
  by_cases h1 : op = 1
  · subst h1
    go_enter Tryd.func22, Tryd.ntmps22
    go_wp2_with (go_at_call 28; refine (pairVal_any _ _ _).mono ?_; rintro e w' ⟨rfl, rfl⟩)
    refine bodyPost_ret (v := .tuple #[.agg #[.int .i64 3, .int .i64 0, .float .f64 (negF x), .float .f64 (negF y)], .int .i64 0]) (by simp [results, Tryd.results22, go_sem]) rfl (leaves_p rfl (is_some (negF_lt lx)) (is_some (negF_lt ly)) rfl ?_)
    (repeat (first | with_reducible exact Below.refl _ _ | with_reducible refine bl_alloc ?_ _ | with_reducible refine bl_drewN ?_ _ | with_reducible refine bl_drew ?_ | with_reducible refine bl_setCell ?_ (by first | exact Nat.le_refl _ | (dsimp only; omega) | (simp <;> omega)) _ | with_reducible refine bl_trans ?_ (by with_reducible assumption)))
  by_cases h3 : op = 3
  · subst h3
    go_enter Tryd.func22, Tryd.ntmps22
    go_wp2_with (go_at_call 37; refine (realVal_any _ _).mono ?_; rintro e w' ⟨rfl, rfl⟩)
    refine bodyPost_ret (v := .tuple #[.agg #[.int .i64 2, .int .i64 0, .float .f64 x, .float .f64 0], .int .i64 0]) (by simp [results, Tryd.results22, go_sem]) rfl (leaves_r rfl (is_some lx) rfl ?_)
    (repeat (first | with_reducible exact Below.refl _ _ | with_reducible refine bl_alloc ?_ _ | with_reducible refine bl_drewN ?_ _ | with_reducible refine bl_drew ?_ | with_reducible refine bl_setCell ?_ (by first | exact Nat.le_refl _ | (dsimp only; omega) | (simp <;> omega)) _ | with_reducible refine bl_trans ?_ (by with_reducible assumption)))
  by_cases h4 : op = 4
  · subst h4
    go_enter Tryd.func22, Tryd.ntmps22
    go_wp2_with (go_at_call 37; refine (realVal_any _ _).mono ?_; rintro e w' ⟨rfl, rfl⟩)
    refine bodyPost_ret (v := .tuple #[.agg #[.int .i64 2, .int .i64 0, .float .f64 y, .float .f64 0], .int .i64 0]) (by simp [results, Tryd.results22, go_sem]) rfl (leaves_r rfl (is_some ly) rfl ?_)
    (repeat (first | with_reducible exact Below.refl _ _ | with_reducible refine bl_alloc ?_ _ | with_reducible refine bl_drewN ?_ _ | with_reducible refine bl_drew ?_ | with_reducible refine bl_setCell ?_ (by first | exact Nat.le_refl _ | (dsimp only; omega) | (simp <;> omega)) _ | with_reducible refine bl_trans ?_ (by with_reducible assumption)))
  by_cases h6 : op = 6
  · subst h6
    go_enter Tryd.func22, Tryd.ntmps22
    go_wp2_with fail
    refine (pairSize_any _ _ _).mono ?_
    rintro e w' ⟨r, n, rfl, hr, rfl⟩
    go_wp2_with (go_at_call 37; refine (realVal_any _ _).mono ?_; rintro e w' ⟨rfl, rfl⟩)
    refine bodyPost_ret (v := .tuple #[.agg #[.int .i64 2, .int .i64 0, .float .f64 r, .float .f64 0], .int .i64 0]) (by simp [results, Tryd.results22, go_sem]) rfl (leaves_r rfl hr rfl ?_)
    (repeat (first | with_reducible exact Below.refl _ _ | with_reducible refine bl_alloc ?_ _ | with_reducible refine bl_drewN ?_ _ | with_reducible refine bl_drew ?_ | with_reducible refine bl_setCell ?_ (by first | exact Nat.le_refl _ | (dsimp only; omega) | (simp <;> omega)) _ | with_reducible refine bl_trans ?_ (by with_reducible assumption)))
  have g1 : (op == 1) = false := beq_eq_false_iff_ne.2 h1
  have g3 : (op == 3) = false := beq_eq_false_iff_ne.2 h3
  have g4 : (op == 4) = false := beq_eq_false_iff_ne.2 h4
  have g6 : (op == 6) = false := beq_eq_false_iff_ne.2 h6
  have E : Hid (pairTurnOut op x y = (zV, 1)) := by simp [Hid, pairTurnOut, h1, h3, h4, h6]
  go_enter Tryd.func22, Tryd.ntmps22
  go_wp2_with fail
  refine bodyPost_ret (v := .tuple #[.agg #[.int .i64 0, .int .i64 0, .float .f64 0, .float .f64 0], .int .i64 1]) (by simp [results, Tryd.results22, go_sem]) rfl (leaves_z E.out rfl ?_)
  (repeat (first | with_reducible exact Below.refl _ _ | with_reducible refine bl_alloc ?_ _ | with_reducible refine bl_drewN ?_ _ | with_reducible refine bl_drew ?_ | with_reducible refine bl_setCell ?_ (by first | exact Nat.le_refl _ | (dsimp only; omega) | (simp <;> omega)) _ | with_reducible refine bl_trans ?_ (by with_reducible assumption)))

set_option maxHeartbeats 1000000 in
theorem boolTurn_any (op : Int) (b : Bool) (w : World) :
    Calls Tryd.prog 24 #[.int .i64 op, .bool b] w fun e w' => Leaves2 (boolTurnOut op b) w e w' := by
  by_cases h2 : op = 2
  · subst h2
    go_enter Tryd.func24, Tryd.ntmps24
    go_wp2_with (go_at_call 39; refine (boolVal_any _ _).mono ?_; rintro e w' ⟨rfl, rfl⟩)
    refine bodyPost_ret (v := .tuple #[.agg #[.int .i64 4, .int .i64 (bN (!b)), .float .f64 0, .float .f64 0], .int .i64 0]) (by simp [results, Tryd.results24, go_sem]) rfl (leaves_b rfl rfl ?_)
    (repeat (first | with_reducible exact Below.refl _ _ | with_reducible refine bl_alloc ?_ _ | with_reducible refine bl_drewN ?_ _ | with_reducible refine bl_drew ?_ | with_reducible refine bl_setCell ?_ (by first | exact Nat.le_refl _ | (dsimp only; omega) | (simp <;> omega)) _ | with_reducible refine bl_trans ?_ (by with_reducible assumption)))
  have g2 : (op == 2) = false := beq_eq_false_iff_ne.2 h2
  have E : Hid (boolTurnOut op b = (zV, 1)) := by simp [Hid, boolTurnOut, h2]
  go_enter Tryd.func24, Tryd.ntmps24
  go_wp2_with fail
  refine bodyPost_ret (v := .tuple #[.agg #[.int .i64 0, .int .i64 0, .float .f64 0, .float .f64 0], .int .i64 1]) (by simp [results, Tryd.results24, go_sem]) rfl (leaves_z E.out rfl ?_)
  (repeat (first | with_reducible exact Below.refl _ _ | with_reducible refine bl_alloc ?_ _ | with_reducible refine bl_drewN ?_ _ | with_reducible refine bl_drew ?_ | with_reducible refine bl_setCell ?_ (by first | exact Nat.le_refl _ | (dsimp only; omega) | (simp <;> omega)) _ | with_reducible refine bl_trans ?_ (by with_reducible assumption)))

set_option maxHeartbeats 1000000 in
theorem implTurn_any (op k i : Int) (x y : Nat) (w : World) (lx : x < 18446744073709551616) (ly : y < 18446744073709551616) :
    Calls Tryd.prog 6 #[.int .i64 op, .agg #[.int .i64 k, .int .i64 i, .float .f64 x, .float .f64 y]] w fun e w' => Leaves2 (turnOut op k i x y) w e w' := by
  cases hx : okB k i x y
  · have E : Hid (turnOut op k i x y = (zV, 1)) := by simp [Hid, turnOut, hx]
    go_enter Tryd.func6, Tryd.ntmps6
    go_wp2_with (go_at_call 19; refine (implOk_any _ _ _ _ _).mono ?_; rintro e w' ⟨rfl, rfl⟩)
    refine bodyPost_ret (v := .tuple #[.agg #[.int .i64 0, .int .i64 0, .float .f64 0, .float .f64 0], .int .i64 1]) (by simp [results, Tryd.results6, go_sem]) rfl (leaves_z E.out rfl ?_)
    (repeat (first | with_reducible exact Below.refl _ _ | with_reducible refine bl_alloc ?_ _ | with_reducible refine bl_drewN ?_ _ | with_reducible refine bl_drew ?_ | with_reducible refine bl_setCell ?_ (by first | exact Nat.le_refl _ | (dsimp only; omega) | (simp <;> omega)) _ | with_reducible refine bl_trans ?_ (by with_reducible assumption)))
  by_cases h1 : k = 1
  · subst h1
    have E : Hid (turnOut op 1 i x y = intTurnOut op i) := by simp [Hid, turnOut, hx]
    go_enter Tryd.func6, Tryd.ntmps6
    go_wp2_with ((go_at_call 19; refine (implOk_any _ _ _ _ _).mono ?_; rintro e w' ⟨rfl, rfl⟩))
    refine (intTurn_any _ _ _).mono ?_
    rintro e w' ⟨k', i', x', y', rfl, hv, hb⟩
    obtain ⟨hc, hf⟩ := bcell hb
    go_wp2_with fail
    refine bodyPost_ret (v := .tuple #[.agg #[.int .i64 k', .int .i64 i', .float .f64 x', .float .f64 y'], .int .i64 (intTurnOut op i).2]) (by simp [results, Tryd.results6, go_sem, hc]) rfl ⟨k', i', x', y', by rw [E.out], by rw [E.out]; exact hv, ?_⟩
    (repeat (first | with_reducible exact Below.refl _ _ | with_reducible refine bl_alloc ?_ _ | with_reducible refine bl_drewN ?_ _ | with_reducible refine bl_drew ?_ | with_reducible refine bl_setCell ?_ (by first | exact Nat.le_refl _ | (dsimp only; omega) | (simp <;> omega)) _ | with_reducible refine bl_trans ?_ (by with_reducible assumption)))
  by_cases h2 : k = 2
  · subst h2
    have E : Hid (turnOut op 2 i x y = realTurnOut op x) := by simp [Hid, turnOut, hx]
    go_enter Tryd.func6, Tryd.ntmps6
    go_wp2_with ((go_at_call 19; refine (implOk_any _ _ _ _ _).mono ?_; rintro e w' ⟨rfl, rfl⟩))
    refine (realTurn_any _ _ _ lx).mono ?_
    rintro e w' ⟨k', i', x', y', rfl, hv, hb⟩
    obtain ⟨hc, hf⟩ := bcell hb
    go_wp2_with fail
    refine bodyPost_ret (v := .tuple #[.agg #[.int .i64 k', .int .i64 i', .float .f64 x', .float .f64 y'], .int .i64 (realTurnOut op x).2]) (by simp [results, Tryd.results6, go_sem, hc]) rfl ⟨k', i', x', y', by rw [E.out], by rw [E.out]; exact hv, ?_⟩
    (repeat (first | with_reducible exact Below.refl _ _ | with_reducible refine bl_alloc ?_ _ | with_reducible refine bl_drewN ?_ _ | with_reducible refine bl_drew ?_ | with_reducible refine bl_setCell ?_ (by first | exact Nat.le_refl _ | (dsimp only; omega) | (simp <;> omega)) _ | with_reducible refine bl_trans ?_ (by with_reducible assumption)))
  by_cases h3 : k = 3
  · subst h3
    have E : Hid (turnOut op 3 i x y = pairTurnOut op x y) := by simp [Hid, turnOut, hx]
    go_enter Tryd.func6, Tryd.ntmps6
    go_wp2_with (first | (go_at_call 19; refine (implOk_any _ _ _ _ _).mono ?_; rintro e w' ⟨rfl, rfl⟩) | (go_at_call 23; refine (pairOf_any _ _ _ _ _).mono ?_; rintro e w' ⟨rfl, rfl⟩))
    refine (pairTurn_any _ _ _ _ lx ly).mono ?_
    rintro e w' ⟨k', i', x', y', rfl, hv, hb⟩
    obtain ⟨hc, hf⟩ := bcell hb
    go_wp2_with fail
    refine bodyPost_ret (v := .tuple #[.agg #[.int .i64 k', .int .i64 i', .float .f64 x', .float .f64 y'], .int .i64 (pairTurnOut op x y).2]) (by simp [results, Tryd.results6, go_sem, hc]) rfl ⟨k', i', x', y', by rw [E.out], by rw [E.out]; exact hv, ?_⟩
    (repeat (first | with_reducible exact Below.refl _ _ | with_reducible refine bl_alloc ?_ _ | with_reducible refine bl_drewN ?_ _ | with_reducible refine bl_drew ?_ | with_reducible refine bl_setCell ?_ (by first | exact Nat.le_refl _ | (dsimp only; omega) | (simp <;> omega)) _ | with_reducible refine bl_trans ?_ (by with_reducible assumption)))
  have h4 : k = 4 := by
    by_cases h : k = 4
    · exact h
    · simp [okB, h1, h2, h3, h] at hx
  subst h4
  · clear h1 h2 h3
    have E : Hid (turnOut op 4 i x y = boolTurnOut op (i == 1)) := by simp [Hid, turnOut, hx]
    go_enter Tryd.func6, Tryd.ntmps6
    go_wp2_with ((go_at_call 19; refine (implOk_any _ _ _ _ _).mono ?_; rintro e w' ⟨rfl, rfl⟩))
    refine (boolTurn_any _ _ _).mono ?_
    rintro e w' ⟨k', i', x', y', rfl, hv, hb⟩
    obtain ⟨hc, hf⟩ := bcell hb
    go_wp2_with fail
    refine bodyPost_ret (v := .tuple #[.agg #[.int .i64 k', .int .i64 i', .float .f64 x', .float .f64 y'], .int .i64 (boolTurnOut op (i == 1)).2]) (by simp [results, Tryd.results6, go_sem, hc]) rfl ⟨k', i', x', y', by rw [E.out], by rw [E.out]; exact hv, ?_⟩
    (repeat (first | with_reducible exact Below.refl _ _ | with_reducible refine bl_alloc ?_ _ | with_reducible refine bl_drewN ?_ _ | with_reducible refine bl_drew ?_ | with_reducible refine bl_setCell ?_ (by first | exact Nat.le_refl _ | (dsimp only; omega) | (simp <;> omega)) _ | with_reducible refine bl_trans ?_ (by with_reducible assumption)))
end Go.Proofs.YtmhiddepddgfgaaDoor
