import Derived.Test.YtknallkcengbbaaGreatDoorWc
namespace Go.Proofs.YtknallkcengbbaaGreatDoor
open Go.RowKit

/-- what a value may be: its kind, its whole number, its two floats (none: any NaN). -/
abbrev V := Int × Int × Option Nat × Option Nat
def VIs (o : V) (k i : Int) (x y : Nat) : Prop := k = o.1 ∧ i = o.2.1 ∧ Is o.2.2.1 x ∧ Is o.2.2.2 y
def zV : V := (0, 0, some 0, some 0)
def iV (n : Int) : V := (1, n, some 0, some 0)
def rV (o : Option Nat) : V := (2, 0, o, some 0)
def pV (o p : Option Nat) : V := (3, 0, o, p)
def bN (b : Bool) : Int := if b then 1 else 0
def bV (b : Bool) : V := (4, bN b, some 0, some 0)

theorem is_zero : Is (some 0) 0 := ⟨by decide, Or.inl rfl⟩
theorem is_some {x : Nat} (h : x < 18446744073709551616) : Is (some x) x := ⟨h, Or.inl rfl⟩
theorem is_zV : VIs zV 0 0 0 0 := ⟨rfl, rfl, is_zero, is_zero⟩
theorem is_iV (n : Int) : VIs (iV n) 1 n 0 0 := ⟨rfl, rfl, is_zero, is_zero⟩
theorem is_bV (b : Bool) : VIs (bV b) 4 (bN b) 0 0 := ⟨rfl, rfl, is_zero, is_zero⟩
theorem is_rV {o : Option Nat} {x : Nat} (h : Is o x) : VIs (rV o) 2 0 x 0 := ⟨rfl, rfl, h, is_zero⟩
theorem is_pV {o p : Option Nat} {x y : Nat} (h : Is o x) (g : Is p y) : VIs (pV o p) 3 0 x y := ⟨rfl, rfl, h, g⟩

set_option maxHeartbeats 400000 in
theorem intVal_any (n : Int) (w : World) :
    Calls Tryz.prog 94 #[.int .i64 n] w fun e w' => e = .returned (.agg #[.int .i64 1, .int .i64 n, .float .f64 0, .float .f64 0]) ∧ w' = w.alloc (.cells #[.int .i64 1, .int .i64 n, .float .f64 0, .float .f64 0] 76) := by
  go_enter Tryz.func94, Tryz.ntmps94
  go_wp2
  refine bodyPost_ret (v := .agg #[.int .i64 1, .int .i64 n, .float .f64 0, .float .f64 0]) (by simp [results, Tryz.results94, go_sem]) rfl ⟨rfl, rfl⟩

set_option maxHeartbeats 400000 in
theorem realVal_any (x : Nat) (w : World) :
    Calls Tryz.prog 116 #[.float .f64 x] w fun e w' => e = .returned (.agg #[.int .i64 2, .int .i64 0, .float .f64 x, .float .f64 0]) ∧ w' = w.alloc (.cells #[.int .i64 2, .int .i64 0, .float .f64 x, .float .f64 0] 76) := by
  go_enter Tryz.func116, Tryz.ntmps116
  go_wp2
  refine bodyPost_ret (v := .agg #[.int .i64 2, .int .i64 0, .float .f64 x, .float .f64 0]) (by simp [results, Tryz.results116, go_sem]) rfl ⟨rfl, rfl⟩

set_option maxHeartbeats 400000 in
theorem pairVal_any (x y : Nat) (w : World) :
    Calls Tryz.prog 117 #[.complex .f64 x y] w fun e w' => e = .returned (.agg #[.int .i64 3, .int .i64 0, .float .f64 x, .float .f64 y]) ∧ w' = w.alloc (.cells #[.int .i64 3, .int .i64 0, .float .f64 x, .float .f64 y] 76) := by
  go_enter Tryz.func117, Tryz.ntmps117
  go_wp2
  refine bodyPost_ret (v := .agg #[.int .i64 3, .int .i64 0, .float .f64 x, .float .f64 y]) (by simp [results, Tryz.results117, go_sem]) rfl ⟨rfl, rfl⟩

set_option maxHeartbeats 400000 in
theorem boolVal_any (b : Bool) (w : World) :
    Calls Tryz.prog 95 #[.bool b] w fun e w' => e = .returned (.agg #[.int .i64 4, .int .i64 (bN b), .float .f64 0, .float .f64 0]) ∧ w' = w.alloc (.cells #[.int .i64 4, .int .i64 (bN b), .float .f64 0, .float .f64 0] 76) := by
  cases b
  all_goals
    go_enter Tryz.func95, Tryz.ntmps95
    go_wp2
  · refine bodyPost_ret (v := .agg #[.int .i64 4, .int .i64 0, .float .f64 0, .float .f64 0]) (by simp [results, Tryz.results95, go_sem]) rfl ⟨rfl, rfl⟩
  · refine bodyPost_ret (v := .agg #[.int .i64 4, .int .i64 1, .float .f64 0, .float .f64 0]) (by simp [results, Tryz.results95, go_sem]) rfl ⟨rfl, rfl⟩

set_option maxHeartbeats 400000 in
theorem l1Bool_any (b : Bool) (w : World) :
    Calls Tryz.prog 70 #[.bool b] w fun e w' => e = .returned (.agg #[.int .i64 4, .int .i64 (bN b), .float .f64 0, .float .f64 0]) ∧ w' = w.alloc (.cells #[.int .i64 4, .int .i64 (bN b), .float .f64 0, .float .f64 0] 76) := by
  cases b
  all_goals
    go_enter Tryz.func70, Tryz.ntmps70
    go_wp2
  · refine bodyPost_ret (v := .agg #[.int .i64 4, .int .i64 0, .float .f64 0, .float .f64 0]) (by simp [results, Tryz.results70, go_sem]) rfl ⟨rfl, rfl⟩
  · refine bodyPost_ret (v := .agg #[.int .i64 4, .int .i64 1, .float .f64 0, .float .f64 0]) (by simp [results, Tryz.results70, go_sem]) rfl ⟨rfl, rfl⟩

set_option maxHeartbeats 400000 in
theorem pairOf_any (k i : Int) (x y : Nat) (w : World) :
    Calls Tryz.prog 92 #[.agg #[.int .i64 k, .int .i64 i, .float .f64 x, .float .f64 y]] w fun e w' => e = .returned (.complex .f64 x y) ∧ w' = w.alloc (.cells #[.int .i64 k, .int .i64 i, .float .f64 x, .float .f64 y] 76) := by
  go_enter Tryz.func92, Tryz.ntmps92
  go_wp2
  go_ret
  exact ⟨rfl, rfl⟩

/-- whole numbers: what an op comes to. -/
def intOut (op a b : Int) : V × Int :=
  if op = 1 then (iV (wrap64 (a + b)), 0) else if op = 2 then (iV (wrap64 (a - b)), 0) else if op = 3 then (iV (wrap64 (a * b)), 0)
  else if op = 4 then (if b = 0 then (zV, 2) else (iV (wrap64 (a.tdiv b)), 0)) else if op = 5 then (if b = 0 then (zV, 2) else (iV (a.tmod b), 0))
  else if op = 6 then (bV (decide (a < b)), 0) else if op = 7 then (bV (a == b), 0) else (zV, 1)


/-- what a call of an op leaves: a value that may be what is told, its code; old memory as it was. -/
def Leaves2 (o : V × Int) (w : World) (e : Ending) (w' : World) : Prop :=
  ∃ (k i : Int) (x y : Nat), e = .returned (.tuple #[.agg #[.int .i64 k, .int .i64 i, .float .f64 x, .float .f64 y], .int .i64 o.2]) ∧ VIs o.1 k i x y ∧ Below w.heap.size w w'

theorem leaves_i {o : V × Int} {w : World} {e : Ending} {w' : World} {n : Int} (ho : o = (iV n, 0)) (he : e = .returned (.tuple #[.agg #[.int .i64 1, .int .i64 n, .float .f64 0, .float .f64 0], .int .i64 0])) (hb : Below w.heap.size w w') : Leaves2 o w e w' := by
  subst ho; exact ⟨_, _, _, _, he, is_iV n, hb⟩
theorem leaves_b {o : V × Int} {w : World} {e : Ending} {w' : World} {b : Bool} (ho : o = (bV b, 0)) (he : e = .returned (.tuple #[.agg #[.int .i64 4, .int .i64 (bN b), .float .f64 0, .float .f64 0], .int .i64 0])) (hb : Below w.heap.size w w') : Leaves2 o w e w' := by
  subst ho; exact ⟨_, _, _, _, he, is_bV b, hb⟩
theorem leaves_z {o : V × Int} {w : World} {e : Ending} {w' : World} {c : Int} (ho : o = (zV, c)) (he : e = .returned (.tuple #[.agg #[.int .i64 0, .int .i64 0, .float .f64 0, .float .f64 0], .int .i64 c])) (hb : Below w.heap.size w w') : Leaves2 o w e w' := by
  subst ho; exact ⟨_, _, _, _, he, is_zV, hb⟩
theorem leaves_r {o : V × Int} {w : World} {e : Ending} {w' : World} {q : Option Nat} {x : Nat} (ho : o = (rV q, 0)) (hq : Is q x) (he : e = .returned (.tuple #[.agg #[.int .i64 2, .int .i64 0, .float .f64 x, .float .f64 0], .int .i64 0])) (hb : Below w.heap.size w w') : Leaves2 o w e w' := by
  subst ho; exact ⟨_, _, _, _, he, is_rV hq, hb⟩
theorem leaves_p {o : V × Int} {w : World} {e : Ending} {w' : World} {q r : Option Nat} {x y : Nat} (ho : o = (pV q r, 0)) (hq : Is q x) (hr : Is r y) (he : e = .returned (.tuple #[.agg #[.int .i64 3, .int .i64 0, .float .f64 x, .float .f64 y], .int .i64 0])) (hb : Below w.heap.size w w') : Leaves2 o w e w' := by
  subst ho; exact ⟨_, _, _, _, he, is_pV hq hr, hb⟩

set_option maxHeartbeats 400000 in
theorem share_zero (op a : Int) (w : World) :
    Calls Tryz.prog 115 #[.int .i64 op, .int .i64 a, .int .i64 0] w fun e w' => e = .returned (.tuple #[.agg #[.int .i64 0, .int .i64 0, .float .f64 0, .float .f64 0], .int .i64 2]) ∧ w' = w.alloc (.cells #[.int .i64 0, .int .i64 0, .float .f64 0, .float .f64 0] 76) := by
  go_enter Tryz.func115, Tryz.ntmps115
  go_wp2_with fail
  refine bodyPost_ret (v := .tuple #[.agg #[.int .i64 0, .int .i64 0, .float .f64 0, .float .f64 0], .int .i64 2]) (by simp [results, Tryz.results115, go_sem]) rfl ⟨rfl, rfl⟩

set_option maxHeartbeats 400000 in
theorem share_div (a b : Int) (w : World) (h : ¬ b = 0) :
    Calls Tryz.prog 115 #[.int .i64 4, .int .i64 a, .int .i64 b] w fun e w' => e = .returned (.tuple #[.agg #[.int .i64 1, .int .i64 (wrap64 (a.tdiv b)), .float .f64 0, .float .f64 0], .int .i64 0]) ∧ w' = (w.alloc (.cells #[.int .i64 1, .int .i64 (wrap64 (a.tdiv b)), .float .f64 0, .float .f64 0] 76)).alloc (.cells #[.int .i64 1, .int .i64 (wrap64 (a.tdiv b)), .float .f64 0, .float .f64 0] 76) := by
  have g : (b == 0) = false := beq_eq_false_iff_ne.2 h
  go_enter Tryz.func115, Tryz.ntmps115
  go_wp2_with (go_at_call 94; refine (intVal_any _ _).mono ?_; rintro e w' ⟨rfl, rfl⟩)
  refine bodyPost_ret (v := .tuple #[.agg #[.int .i64 1, .int .i64 (wrap64 (a.tdiv b)), .float .f64 0, .float .f64 0], .int .i64 0]) (by simp [results, Tryz.results115, go_sem]) rfl ⟨rfl, rfl⟩

set_option maxHeartbeats 400000 in
theorem share_mod (a b : Int) (w : World) (h : ¬ b = 0) :
    Calls Tryz.prog 115 #[.int .i64 5, .int .i64 a, .int .i64 b] w fun e w' => e = .returned (.tuple #[.agg #[.int .i64 1, .int .i64 (a.tmod b), .float .f64 0, .float .f64 0], .int .i64 0]) ∧ w' = (w.alloc (.cells #[.int .i64 1, .int .i64 (a.tmod b), .float .f64 0, .float .f64 0] 76)).alloc (.cells #[.int .i64 1, .int .i64 (a.tmod b), .float .f64 0, .float .f64 0] 76) := by
  have g : (b == 0) = false := beq_eq_false_iff_ne.2 h
  go_enter Tryz.func115, Tryz.ntmps115
  go_wp2_with (go_at_call 94; refine (intVal_any _ _).mono ?_; rintro e w' ⟨rfl, rfl⟩)
  refine bodyPost_ret (v := .tuple #[.agg #[.int .i64 1, .int .i64 (a.tmod b), .float .f64 0, .float .f64 0], .int .i64 0]) (by simp [results, Tryz.results115, go_sem]) rfl ⟨rfl, rfl⟩

set_option maxHeartbeats 1000000 in
theorem intOp_any (op a b : Int) (w : World) :
    Calls Tryz.prog 89 #[.int .i64 op, .int .i64 a, .int .i64 b] w fun e w' => Leaves2 (intOut op a b) w e w' := by
  by_cases h1 : op = 1
  · subst h1
    go_enter Tryz.func89, Tryz.ntmps89
    go_wp2_with ((go_at_call 94; refine (intVal_any _ _).mono ?_; rintro e w' ⟨rfl, rfl⟩))
    refine bodyPost_ret (v := .tuple #[.agg #[.int .i64 1, .int .i64 (wrap64 (a + b)), .float .f64 0, .float .f64 0], .int .i64 0]) (by simp [results, Tryz.results89, go_sem]) rfl (leaves_i rfl rfl ?_)
    (repeat (first | with_reducible exact Below.refl _ _ | with_reducible refine bl_alloc ?_ _ | with_reducible refine bl_drewN ?_ _ | with_reducible refine bl_drew ?_ | with_reducible refine bl_setCell ?_ (by first | exact Nat.le_refl _ | (dsimp only; omega) | (simp <;> omega)) _ | with_reducible refine bl_trans ?_ (by with_reducible assumption)))
  by_cases h2 : op = 2
  · subst h2
    go_enter Tryz.func89, Tryz.ntmps89
    go_wp2_with ((go_at_call 94; refine (intVal_any _ _).mono ?_; rintro e w' ⟨rfl, rfl⟩))
    refine bodyPost_ret (v := .tuple #[.agg #[.int .i64 1, .int .i64 (wrap64 (a - b)), .float .f64 0, .float .f64 0], .int .i64 0]) (by simp [results, Tryz.results89, go_sem]) rfl (leaves_i rfl rfl ?_)
    (repeat (first | with_reducible exact Below.refl _ _ | with_reducible refine bl_alloc ?_ _ | with_reducible refine bl_drewN ?_ _ | with_reducible refine bl_drew ?_ | with_reducible refine bl_setCell ?_ (by first | exact Nat.le_refl _ | (dsimp only; omega) | (simp <;> omega)) _ | with_reducible refine bl_trans ?_ (by with_reducible assumption)))
  by_cases h3 : op = 3
  · subst h3
    go_enter Tryz.func89, Tryz.ntmps89
    go_wp2_with ((go_at_call 94; refine (intVal_any _ _).mono ?_; rintro e w' ⟨rfl, rfl⟩))
    refine bodyPost_ret (v := .tuple #[.agg #[.int .i64 1, .int .i64 (wrap64 (a * b)), .float .f64 0, .float .f64 0], .int .i64 0]) (by simp [results, Tryz.results89, go_sem]) rfl (leaves_i rfl rfl ?_)
    (repeat (first | with_reducible exact Below.refl _ _ | with_reducible refine bl_alloc ?_ _ | with_reducible refine bl_drewN ?_ _ | with_reducible refine bl_drew ?_ | with_reducible refine bl_setCell ?_ (by first | exact Nat.le_refl _ | (dsimp only; omega) | (simp <;> omega)) _ | with_reducible refine bl_trans ?_ (by with_reducible assumption)))
  by_cases h6 : op = 6
  · subst h6
    go_enter Tryz.func89, Tryz.ntmps89
    go_wp2_with ((go_at_call 95; refine (boolVal_any _ _).mono ?_; rintro e w' ⟨rfl, rfl⟩))
    refine bodyPost_ret (v := .tuple #[.agg #[.int .i64 4, .int .i64 (bN (decide (a < b))), .float .f64 0, .float .f64 0], .int .i64 0]) (by simp [results, Tryz.results89, go_sem]) rfl (leaves_b rfl rfl ?_)
    (repeat (first | with_reducible exact Below.refl _ _ | with_reducible refine bl_alloc ?_ _ | with_reducible refine bl_drewN ?_ _ | with_reducible refine bl_drew ?_ | with_reducible refine bl_setCell ?_ (by first | exact Nat.le_refl _ | (dsimp only; omega) | (simp <;> omega)) _ | with_reducible refine bl_trans ?_ (by with_reducible assumption)))
  by_cases h7 : op = 7
  · subst h7
    go_enter Tryz.func89, Tryz.ntmps89
    go_wp2_with ((go_at_call 95; refine (boolVal_any _ _).mono ?_; rintro e w' ⟨rfl, rfl⟩))
    refine bodyPost_ret (v := .tuple #[.agg #[.int .i64 4, .int .i64 (bN (a == b)), .float .f64 0, .float .f64 0], .int .i64 0]) (by simp [results, Tryz.results89, go_sem]) rfl (leaves_b rfl rfl ?_)
    (repeat (first | with_reducible exact Below.refl _ _ | with_reducible refine bl_alloc ?_ _ | with_reducible refine bl_drewN ?_ _ | with_reducible refine bl_drew ?_ | with_reducible refine bl_setCell ?_ (by first | exact Nat.le_refl _ | (dsimp only; omega) | (simp <;> omega)) _ | with_reducible refine bl_trans ?_ (by with_reducible assumption)))
  have g1 : (op == 1) = false := beq_eq_false_iff_ne.2 h1
  have g2 : (op == 2) = false := beq_eq_false_iff_ne.2 h2
  have g3 : (op == 3) = false := beq_eq_false_iff_ne.2 h3
  have g6 : (op == 6) = false := beq_eq_false_iff_ne.2 h6
  have g7 : (op == 7) = false := beq_eq_false_iff_ne.2 h7
  by_cases h4 : op = 4
  · subst h4
    by_cases hb : b = 0
    · subst hb
      go_enter Tryz.func89, Tryz.ntmps89
      go_wp2_with (go_at_call 115; refine (share_zero _ _ _).mono ?_; rintro e w' ⟨rfl, rfl⟩)
      refine bodyPost_ret (v := .tuple #[.agg #[.int .i64 0, .int .i64 0, .float .f64 0, .float .f64 0], .int .i64 2]) (by simp [results, Tryz.results89, go_sem]) rfl (leaves_z rfl rfl ?_)
      (repeat (first | with_reducible exact Below.refl _ _ | with_reducible refine bl_alloc ?_ _ | with_reducible refine bl_drewN ?_ _ | with_reducible refine bl_drew ?_ | with_reducible refine bl_setCell ?_ (by first | exact Nat.le_refl _ | (dsimp only; omega) | (simp <;> omega)) _ | with_reducible refine bl_trans ?_ (by with_reducible assumption)))
    · have E : Hid (intOut 4 a b = (iV (wrap64 (a.tdiv b)), 0)) := by simp [Hid, intOut, hb]
      go_enter Tryz.func89, Tryz.ntmps89
      go_wp2_with (go_at_call 115; refine (share_div _ _ _ hb).mono ?_; rintro e w' ⟨rfl, rfl⟩)
      refine bodyPost_ret (v := .tuple #[.agg #[.int .i64 1, .int .i64 (wrap64 (a.tdiv b)), .float .f64 0, .float .f64 0], .int .i64 0]) (by simp [results, Tryz.results89, go_sem]) rfl (leaves_i E.out rfl ?_)
      (repeat (first | with_reducible exact Below.refl _ _ | with_reducible refine bl_alloc ?_ _ | with_reducible refine bl_drewN ?_ _ | with_reducible refine bl_drew ?_ | with_reducible refine bl_setCell ?_ (by first | exact Nat.le_refl _ | (dsimp only; omega) | (simp <;> omega)) _ | with_reducible refine bl_trans ?_ (by with_reducible assumption)))
  by_cases h5 : op = 5
  · subst h5
    by_cases hb : b = 0
    · subst hb
      go_enter Tryz.func89, Tryz.ntmps89
      go_wp2_with (go_at_call 115; refine (share_zero _ _ _).mono ?_; rintro e w' ⟨rfl, rfl⟩)
      refine bodyPost_ret (v := .tuple #[.agg #[.int .i64 0, .int .i64 0, .float .f64 0, .float .f64 0], .int .i64 2]) (by simp [results, Tryz.results89, go_sem]) rfl (leaves_z rfl rfl ?_)
      (repeat (first | with_reducible exact Below.refl _ _ | with_reducible refine bl_alloc ?_ _ | with_reducible refine bl_drewN ?_ _ | with_reducible refine bl_drew ?_ | with_reducible refine bl_setCell ?_ (by first | exact Nat.le_refl _ | (dsimp only; omega) | (simp <;> omega)) _ | with_reducible refine bl_trans ?_ (by with_reducible assumption)))
    · have E : Hid (intOut 5 a b = (iV (a.tmod b), 0)) := by simp [Hid, intOut, hb]
      go_enter Tryz.func89, Tryz.ntmps89
      go_wp2_with (go_at_call 115; refine (share_mod _ _ _ hb).mono ?_; rintro e w' ⟨rfl, rfl⟩)
      refine bodyPost_ret (v := .tuple #[.agg #[.int .i64 1, .int .i64 (a.tmod b), .float .f64 0, .float .f64 0], .int .i64 0]) (by simp [results, Tryz.results89, go_sem]) rfl (leaves_i E.out rfl ?_)
      (repeat (first | with_reducible exact Below.refl _ _ | with_reducible refine bl_alloc ?_ _ | with_reducible refine bl_drewN ?_ _ | with_reducible refine bl_drew ?_ | with_reducible refine bl_setCell ?_ (by first | exact Nat.le_refl _ | (dsimp only; omega) | (simp <;> omega)) _ | with_reducible refine bl_trans ?_ (by with_reducible assumption)))
  have g4 : (op == 4) = false := beq_eq_false_iff_ne.2 h4
  have g5 : (op == 5) = false := beq_eq_false_iff_ne.2 h5
  have E : Hid (intOut op a b = (zV, 1)) := by simp [Hid, intOut, h1, h2, h3, h4, h5, h6, h7]
  go_enter Tryz.func89, Tryz.ntmps89
  go_wp2_with fail
  refine bodyPost_ret (v := .tuple #[.agg #[.int .i64 0, .int .i64 0, .float .f64 0, .float .f64 0], .int .i64 1]) (by simp [results, Tryz.results89, go_sem]) rfl (leaves_z E.out rfl ?_)
  (repeat (first | with_reducible exact Below.refl _ _ | with_reducible refine bl_alloc ?_ _ | with_reducible refine bl_drewN ?_ _ | with_reducible refine bl_drew ?_ | with_reducible refine bl_setCell ?_ (by first | exact Nat.le_refl _ | (dsimp only; omega) | (simp <;> omega)) _ | with_reducible refine bl_trans ?_ (by with_reducible assumption)))
end Go.Proofs.YtknallkcengbbaaGreatDoor
namespace Go.Proofs.YtknallkcengbbaaGreatDoor
open Go.RowKit

def realOut (op : Int) (a b : Nat) : V × Int :=
  if op = 1 then (rV (floatBits .add .f64 a b), 0) else if op = 2 then (rV (floatBits .sub .f64 a b), 0) else if op = 3 then (rV (floatBits .mul .f64 a b), 0)
  else if op = 4 then (rV (floatBits .quo .f64 a b), 0)
  else if op = 6 then (bV (FloatKind.f64.format.order a b == some Ordering.lt), 0) else if op = 7 then (bV (FloatKind.f64.format.order a b == some Ordering.eq), 0) else (zV, 1)

set_option maxHeartbeats 1000000 in
theorem realOp_any (op : Int) (a b : Nat) (w : World) :
    Calls Tryz.prog 90 #[.int .i64 op, .float .f64 a, .float .f64 b] w fun e w' => Leaves2 (realOut op a b) w e w' := by
  by_cases h1 : op = 1
  · subst h1
    have hf := fun t w => run_float_any (P := Tryz.prog) .add rfl t a b w
    go_enter Tryz.func90, Tryz.ntmps90
    go_wp2_with (go_at_call 116; refine (realVal_any _ _).mono ?_; rintro e w' ⟨rfl, rfl⟩)
    refine bodyPost_ret (v := .tuple #[.agg #[.int .i64 2, .int .i64 0, .float .f64 (fres .add a b _), .float .f64 0], .int .i64 0]) (by simp [results, Tryz.results90, go_sem]; rfl) rfl (leaves_r rfl (fres_is _ _ _ _) rfl ?_)
    (repeat (first | with_reducible exact Below.refl _ _ | with_reducible refine bl_alloc ?_ _ | with_reducible refine bl_drewN ?_ _ | with_reducible refine bl_drew ?_ | with_reducible refine bl_setCell ?_ (by first | exact Nat.le_refl _ | (dsimp only; omega) | (simp <;> omega)) _ | with_reducible refine bl_trans ?_ (by with_reducible assumption)))
  by_cases h2 : op = 2
  · subst h2
    have hf := fun t w => run_float_any (P := Tryz.prog) .sub rfl t a b w
    go_enter Tryz.func90, Tryz.ntmps90
    go_wp2_with (go_at_call 116; refine (realVal_any _ _).mono ?_; rintro e w' ⟨rfl, rfl⟩)
    refine bodyPost_ret (v := .tuple #[.agg #[.int .i64 2, .int .i64 0, .float .f64 (fres .sub a b _), .float .f64 0], .int .i64 0]) (by simp [results, Tryz.results90, go_sem]; rfl) rfl (leaves_r rfl (fres_is _ _ _ _) rfl ?_)
    (repeat (first | with_reducible exact Below.refl _ _ | with_reducible refine bl_alloc ?_ _ | with_reducible refine bl_drewN ?_ _ | with_reducible refine bl_drew ?_ | with_reducible refine bl_setCell ?_ (by first | exact Nat.le_refl _ | (dsimp only; omega) | (simp <;> omega)) _ | with_reducible refine bl_trans ?_ (by with_reducible assumption)))
  by_cases h3 : op = 3
  · subst h3
    have hf := fun t w => run_float_any (P := Tryz.prog) .mul rfl t a b w
    go_enter Tryz.func90, Tryz.ntmps90
    go_wp2_with (go_at_call 116; refine (realVal_any _ _).mono ?_; rintro e w' ⟨rfl, rfl⟩)
    refine bodyPost_ret (v := .tuple #[.agg #[.int .i64 2, .int .i64 0, .float .f64 (fres .mul a b _), .float .f64 0], .int .i64 0]) (by simp [results, Tryz.results90, go_sem]; rfl) rfl (leaves_r rfl (fres_is _ _ _ _) rfl ?_)
    (repeat (first | with_reducible exact Below.refl _ _ | with_reducible refine bl_alloc ?_ _ | with_reducible refine bl_drewN ?_ _ | with_reducible refine bl_drew ?_ | with_reducible refine bl_setCell ?_ (by first | exact Nat.le_refl _ | (dsimp only; omega) | (simp <;> omega)) _ | with_reducible refine bl_trans ?_ (by with_reducible assumption)))
  by_cases h4 : op = 4
  · subst h4
    have hf := fun t w => run_float_any (P := Tryz.prog) .quo rfl t a b w
    go_enter Tryz.func90, Tryz.ntmps90
    go_wp2_with (go_at_call 116; refine (realVal_any _ _).mono ?_; rintro e w' ⟨rfl, rfl⟩)
    refine bodyPost_ret (v := .tuple #[.agg #[.int .i64 2, .int .i64 0, .float .f64 (fres .quo a b _), .float .f64 0], .int .i64 0]) (by simp [results, Tryz.results90, go_sem]; rfl) rfl (leaves_r rfl (fres_is _ _ _ _) rfl ?_)
    (repeat (first | with_reducible exact Below.refl _ _ | with_reducible refine bl_alloc ?_ _ | with_reducible refine bl_drewN ?_ _ | with_reducible refine bl_drew ?_ | with_reducible refine bl_setCell ?_ (by first | exact Nat.le_refl _ | (dsimp only; omega) | (simp <;> omega)) _ | with_reducible refine bl_trans ?_ (by with_reducible assumption)))
  by_cases h6 : op = 6
  · subst h6
    go_enter Tryz.func90, Tryz.ntmps90
    go_wp2_with (go_at_call 95; refine (boolVal_any _ _).mono ?_; rintro e w' ⟨rfl, rfl⟩)
    refine bodyPost_ret (v := .tuple #[.agg #[.int .i64 4, .int .i64 (bN (FloatKind.f64.format.order a b == some Ordering.lt)), .float .f64 0, .float .f64 0], .int .i64 0]) (by simp [results, Tryz.results90, go_sem]) rfl (leaves_b rfl rfl ?_)
    (repeat (first | with_reducible exact Below.refl _ _ | with_reducible refine bl_alloc ?_ _ | with_reducible refine bl_drewN ?_ _ | with_reducible refine bl_drew ?_ | with_reducible refine bl_setCell ?_ (by first | exact Nat.le_refl _ | (dsimp only; omega) | (simp <;> omega)) _ | with_reducible refine bl_trans ?_ (by with_reducible assumption)))
  by_cases h7 : op = 7
  · subst h7
    go_enter Tryz.func90, Tryz.ntmps90
    go_wp2_with (go_at_call 95; refine (boolVal_any _ _).mono ?_; rintro e w' ⟨rfl, rfl⟩)
    refine bodyPost_ret (v := .tuple #[.agg #[.int .i64 4, .int .i64 (bN (FloatKind.f64.format.order a b == some Ordering.eq)), .float .f64 0, .float .f64 0], .int .i64 0]) (by simp [results, Tryz.results90, go_sem]) rfl (leaves_b rfl rfl ?_)
    (repeat (first | with_reducible exact Below.refl _ _ | with_reducible refine bl_alloc ?_ _ | with_reducible refine bl_drewN ?_ _ | with_reducible refine bl_drew ?_ | with_reducible refine bl_setCell ?_ (by first | exact Nat.le_refl _ | (dsimp only; omega) | (simp <;> omega)) _ | with_reducible refine bl_trans ?_ (by with_reducible assumption)))
  have g1 : (op == 1) = false := beq_eq_false_iff_ne.2 h1
  have g2 : (op == 2) = false := beq_eq_false_iff_ne.2 h2
  have g3 : (op == 3) = false := beq_eq_false_iff_ne.2 h3
  have g4 : (op == 4) = false := beq_eq_false_iff_ne.2 h4
  have g6 : (op == 6) = false := beq_eq_false_iff_ne.2 h6
  have g7 : (op == 7) = false := beq_eq_false_iff_ne.2 h7
  have E : Hid (realOut op a b = (zV, 1)) := by simp [Hid, realOut, h1, h2, h3, h4, h6, h7]
  go_enter Tryz.func90, Tryz.ntmps90
  go_wp2_with fail
  refine bodyPost_ret (v := .tuple #[.agg #[.int .i64 0, .int .i64 0, .float .f64 0, .float .f64 0], .int .i64 1]) (by simp [results, Tryz.results90, go_sem]) rfl (leaves_z E.out rfl ?_)
  (repeat (first | with_reducible exact Below.refl _ _ | with_reducible refine bl_alloc ?_ _ | with_reducible refine bl_drewN ?_ _ | with_reducible refine bl_drew ?_ | with_reducible refine bl_setCell ?_ (by first | exact Nat.le_refl _ | (dsimp only; omega) | (simp <;> omega)) _ | with_reducible refine bl_trans ?_ (by with_reducible assumption)))
end Go.Proofs.YtknallkcengbbaaGreatDoor
namespace Go.Proofs.YtknallkcengbbaaGreatDoor
open Go.RowKit

def mulRe (a b c d : Nat) : Option Nat := op2 .sub (floatBits .mul .f64 a c) (floatBits .mul .f64 b d)
def mulIm (a b c d : Nat) : Option Nat := op2 .add (floatBits .mul .f64 a d) (floatBits .mul .f64 b c)

set_option maxHeartbeats 1000000 in
theorem product_any (a b c d : Nat) (w : World) :
    Calls Tryz.prog 118 #[.complex .f64 a b, .complex .f64 c d] w fun e w' => ∃ re im n, e = .returned (.complex .f64 re im) ∧ Is (mulRe a b c d) re ∧ Is (mulIm a b c d) im ∧ w' = w.drewN n := by
  have hm := fun t x y w => run_float_any (P := Tryz.prog) .mul rfl t x y w
  have ha := fun t x y w => run_float_any (P := Tryz.prog) .add rfl t x y w
  have hs := fun t x y w => run_float_any (P := Tryz.prog) .sub rfl t x y w
  go_enter Tryz.func118, Tryz.ntmps118
  go_wp2
  go_ret
  exact ⟨_, _, _, rfl, Is.op2 (fres_is _ _ _ _) (fres_is _ _ _ _) (fres_is _ _ _ _), Is.op2 (fres_is _ _ _ _) (fres_is _ _ _ _) (fres_is _ _ _ _), rfl⟩

theorem run_arith_any {P : Program} (op : BinOp) (h4 : arith4 op = true) (x y : Nat) (w : World) :
    (Op.Complex.arith op .f64 x y).run P w = .ok (fres op x y w) (w.drewN (fdraw op x y)) := by
  have h := run_float_any (P := P) op h4 0 x y w
  have e : binOp op 0 (.float .f64 x) (.float .f64 y) = Op.floatArith op .f64 x y := by
    cases op <;> first | (cases h4; done) | rfl
  rw [e] at h
  simp [Op.Complex.arith, h]

theorem run_csum_any {P : Program} (op : BinOp) (hop : op = .add ∨ op = .sub) (t : TypeId) (a b c d : Nat) (w : World) :
    (binOp op t (.complex .f64 a b) (.complex .f64 c d)).run P w = .ok (.complex .f64 (fres op a c w) (fres op b d (w.drewN (fdraw op a c)))) ((w.drewN (fdraw op a c)).drewN (fdraw op b d)) := by
  rcases hop with rfl | rfl
  · simp [binOp, Op.complexOp, run_arith_any .add rfl]
  · simp [binOp, Op.complexOp, run_arith_any .sub rfl]

def pairOut (op : Int) (a b c d : Nat) : V × Int :=
  if op = 1 then (pV (floatBits .add .f64 a c) (floatBits .add .f64 b d), 0) else if op = 2 then (pV (floatBits .sub .f64 a c) (floatBits .sub .f64 b d), 0)
  else if op = 3 then (pV (mulRe a b c d) (mulIm a b c d), 0)
  else if op = 7 then (bV (FloatKind.f64.format.order a c == some Ordering.eq && FloatKind.f64.format.order b d == some Ordering.eq), 0) else (zV, 1)

set_option maxHeartbeats 1000000 in
theorem pairOp_any (op : Int) (a b c d : Nat) (w : World) :
    Calls Tryz.prog 91 #[.int .i64 op, .complex .f64 a b, .complex .f64 c d] w fun e w' => Leaves2 (pairOut op a b c d) w e w' := by
  by_cases h1 : op = 1
  · subst h1
    have hf := fun t w => run_csum_any (P := Tryz.prog) .add (by simp) t a b c d w
    go_enter Tryz.func91, Tryz.ntmps91
    go_wp2_with (go_at_call 117; refine (pairVal_any _ _ _).mono ?_; rintro e w' ⟨rfl, rfl⟩)
    refine bodyPost_ret (v := .tuple #[.agg #[.int .i64 3, .int .i64 0, .float .f64 (fres .add a c _), .float .f64 (fres .add b d _)], .int .i64 0]) (by simp [results, Tryz.results91, go_sem]; exact ⟨rfl, rfl⟩) rfl (leaves_p rfl (fres_is _ _ _ _) (fres_is _ _ _ _) rfl ?_)
    (repeat (first | with_reducible exact Below.refl _ _ | with_reducible refine bl_alloc ?_ _ | with_reducible refine bl_drewN ?_ _ | with_reducible refine bl_drew ?_ | with_reducible refine bl_setCell ?_ (by first | exact Nat.le_refl _ | (dsimp only; omega) | (simp <;> omega)) _ | with_reducible refine bl_trans ?_ (by with_reducible assumption)))
  by_cases h2 : op = 2
  · subst h2
    have hf := fun t w => run_csum_any (P := Tryz.prog) .sub (by simp) t a b c d w
    go_enter Tryz.func91, Tryz.ntmps91
    go_wp2_with (go_at_call 117; refine (pairVal_any _ _ _).mono ?_; rintro e w' ⟨rfl, rfl⟩)
    refine bodyPost_ret (v := .tuple #[.agg #[.int .i64 3, .int .i64 0, .float .f64 (fres .sub a c _), .float .f64 (fres .sub b d _)], .int .i64 0]) (by simp [results, Tryz.results91, go_sem]; exact ⟨rfl, rfl⟩) rfl (leaves_p rfl (fres_is _ _ _ _) (fres_is _ _ _ _) rfl ?_)
    (repeat (first | with_reducible exact Below.refl _ _ | with_reducible refine bl_alloc ?_ _ | with_reducible refine bl_drewN ?_ _ | with_reducible refine bl_drew ?_ | with_reducible refine bl_setCell ?_ (by first | exact Nat.le_refl _ | (dsimp only; omega) | (simp <;> omega)) _ | with_reducible refine bl_trans ?_ (by with_reducible assumption)))
  by_cases h3 : op = 3
  · subst h3
    go_enter Tryz.func91, Tryz.ntmps91
    go_wp2_with fail
    refine (product_any _ _ _ _ _).mono ?_
    rintro e w' ⟨re, im, n, rfl, hre, him, rfl⟩
    go_wp2_with (go_at_call 117; refine (pairVal_any _ _ _).mono ?_; rintro e w' ⟨rfl, rfl⟩)
    refine bodyPost_ret (v := .tuple #[.agg #[.int .i64 3, .int .i64 0, .float .f64 re, .float .f64 im], .int .i64 0]) (by simp [results, Tryz.results91, go_sem]) rfl (leaves_p rfl hre him rfl ?_)
    (repeat (first | with_reducible exact Below.refl _ _ | with_reducible refine bl_alloc ?_ _ | with_reducible refine bl_drewN ?_ _ | with_reducible refine bl_drew ?_ | with_reducible refine bl_setCell ?_ (by first | exact Nat.le_refl _ | (dsimp only; omega) | (simp <;> omega)) _ | with_reducible refine bl_trans ?_ (by with_reducible assumption)))
  by_cases h7 : op = 7
  · subst h7
    go_enter Tryz.func91, Tryz.ntmps91
    go_wp2_with (go_at_call 95; refine (boolVal_any _ _).mono ?_; rintro e w' ⟨rfl, rfl⟩)
    refine bodyPost_ret (v := .tuple #[.agg #[.int .i64 4, .int .i64 (bN (FloatKind.f64.format.order a c == some Ordering.eq && FloatKind.f64.format.order b d == some Ordering.eq)), .float .f64 0, .float .f64 0], .int .i64 0]) (by simp [results, Tryz.results91, go_sem]) rfl (leaves_b rfl rfl ?_)
    (repeat (first | with_reducible exact Below.refl _ _ | with_reducible refine bl_alloc ?_ _ | with_reducible refine bl_drewN ?_ _ | with_reducible refine bl_drew ?_ | with_reducible refine bl_setCell ?_ (by first | exact Nat.le_refl _ | (dsimp only; omega) | (simp <;> omega)) _ | with_reducible refine bl_trans ?_ (by with_reducible assumption)))
  have g1 : (op == 1) = false := beq_eq_false_iff_ne.2 h1
  have g2 : (op == 2) = false := beq_eq_false_iff_ne.2 h2
  have g3 : (op == 3) = false := beq_eq_false_iff_ne.2 h3
  have g7 : (op == 7) = false := beq_eq_false_iff_ne.2 h7
  have E : Hid (pairOut op a b c d = (zV, 1)) := by simp [Hid, pairOut, h1, h2, h3, h7]
  go_enter Tryz.func91, Tryz.ntmps91
  go_wp2_with fail
  refine bodyPost_ret (v := .tuple #[.agg #[.int .i64 0, .int .i64 0, .float .f64 0, .float .f64 0], .int .i64 1]) (by simp [results, Tryz.results91, go_sem]) rfl (leaves_z E.out rfl ?_)
  (repeat (first | with_reducible exact Below.refl _ _ | with_reducible refine bl_alloc ?_ _ | with_reducible refine bl_drewN ?_ _ | with_reducible refine bl_drew ?_ | with_reducible refine bl_setCell ?_ (by first | exact Nat.le_refl _ | (dsimp only; omega) | (simp <;> omega)) _ | with_reducible refine bl_trans ?_ (by with_reducible assumption)))

def boolOut (op : Int) (a b : Bool) : V × Int :=
  if op = 7 then (bV (a == b), 0) else if op = 8 then (bV (a && b), 0) else if op = 9 then (bV (a || b), 0) else (zV, 1)

set_option maxHeartbeats 1000000 in
theorem boolOp_any (op : Int) (a b : Bool) (w : World) :
    Calls Tryz.prog 93 #[.int .i64 op, .bool a, .bool b] w fun e w' => Leaves2 (boolOut op a b) w e w' := by
  by_cases h7 : op = 7
  · subst h7
    cases a <;> cases b
    all_goals
      go_enter Tryz.func93, Tryz.ntmps93
      go_wp2_with (go_at_call 95; refine (boolVal_any _ _).mono ?_; rintro e w' ⟨rfl, rfl⟩)
      first
        | (refine bodyPost_ret (v := .tuple #[.agg #[.int .i64 4, .int .i64 (bN false), .float .f64 0, .float .f64 0], .int .i64 0]) (by simp [results, Tryz.results93, go_sem]; done) rfl (leaves_b (b := false) rfl rfl ?_); (repeat (first | with_reducible exact Below.refl _ _ | with_reducible refine bl_alloc ?_ _ | with_reducible refine bl_drewN ?_ _ | with_reducible refine bl_drew ?_ | with_reducible refine bl_setCell ?_ (by first | exact Nat.le_refl _ | (dsimp only; omega) | (simp <;> omega)) _ | with_reducible refine bl_trans ?_ (by with_reducible assumption))); done)
        | (refine bodyPost_ret (v := .tuple #[.agg #[.int .i64 4, .int .i64 (bN true), .float .f64 0, .float .f64 0], .int .i64 0]) (by simp [results, Tryz.results93, go_sem]; done) rfl (leaves_b (b := true) rfl rfl ?_); (repeat (first | with_reducible exact Below.refl _ _ | with_reducible refine bl_alloc ?_ _ | with_reducible refine bl_drewN ?_ _ | with_reducible refine bl_drew ?_ | with_reducible refine bl_setCell ?_ (by first | exact Nat.le_refl _ | (dsimp only; omega) | (simp <;> omega)) _ | with_reducible refine bl_trans ?_ (by with_reducible assumption))); done)
  by_cases h8 : op = 8
  · subst h8
    cases a <;> cases b
    all_goals
      go_enter Tryz.func93, Tryz.ntmps93
      go_wp2_with (go_at_call 95; refine (boolVal_any _ _).mono ?_; rintro e w' ⟨rfl, rfl⟩)
      first
        | (refine bodyPost_ret (v := .tuple #[.agg #[.int .i64 4, .int .i64 (bN false), .float .f64 0, .float .f64 0], .int .i64 0]) (by simp [results, Tryz.results93, go_sem]; done) rfl (leaves_b (b := false) rfl rfl ?_); (repeat (first | with_reducible exact Below.refl _ _ | with_reducible refine bl_alloc ?_ _ | with_reducible refine bl_drewN ?_ _ | with_reducible refine bl_drew ?_ | with_reducible refine bl_setCell ?_ (by first | exact Nat.le_refl _ | (dsimp only; omega) | (simp <;> omega)) _ | with_reducible refine bl_trans ?_ (by with_reducible assumption))); done)
        | (refine bodyPost_ret (v := .tuple #[.agg #[.int .i64 4, .int .i64 (bN true), .float .f64 0, .float .f64 0], .int .i64 0]) (by simp [results, Tryz.results93, go_sem]; done) rfl (leaves_b (b := true) rfl rfl ?_); (repeat (first | with_reducible exact Below.refl _ _ | with_reducible refine bl_alloc ?_ _ | with_reducible refine bl_drewN ?_ _ | with_reducible refine bl_drew ?_ | with_reducible refine bl_setCell ?_ (by first | exact Nat.le_refl _ | (dsimp only; omega) | (simp <;> omega)) _ | with_reducible refine bl_trans ?_ (by with_reducible assumption))); done)
  by_cases h9 : op = 9
  · subst h9
    cases a <;> cases b
    all_goals
      go_enter Tryz.func93, Tryz.ntmps93
      go_wp2_with (go_at_call 95; refine (boolVal_any _ _).mono ?_; rintro e w' ⟨rfl, rfl⟩)
      first
        | (refine bodyPost_ret (v := .tuple #[.agg #[.int .i64 4, .int .i64 (bN false), .float .f64 0, .float .f64 0], .int .i64 0]) (by simp [results, Tryz.results93, go_sem]; done) rfl (leaves_b (b := false) rfl rfl ?_); (repeat (first | with_reducible exact Below.refl _ _ | with_reducible refine bl_alloc ?_ _ | with_reducible refine bl_drewN ?_ _ | with_reducible refine bl_drew ?_ | with_reducible refine bl_setCell ?_ (by first | exact Nat.le_refl _ | (dsimp only; omega) | (simp <;> omega)) _ | with_reducible refine bl_trans ?_ (by with_reducible assumption))); done)
        | (refine bodyPost_ret (v := .tuple #[.agg #[.int .i64 4, .int .i64 (bN true), .float .f64 0, .float .f64 0], .int .i64 0]) (by simp [results, Tryz.results93, go_sem]; done) rfl (leaves_b (b := true) rfl rfl ?_); (repeat (first | with_reducible exact Below.refl _ _ | with_reducible refine bl_alloc ?_ _ | with_reducible refine bl_drewN ?_ _ | with_reducible refine bl_drew ?_ | with_reducible refine bl_setCell ?_ (by first | exact Nat.le_refl _ | (dsimp only; omega) | (simp <;> omega)) _ | with_reducible refine bl_trans ?_ (by with_reducible assumption))); done)
  have g7 : (op == 7) = false := beq_eq_false_iff_ne.2 h7
  have g8 : (op == 8) = false := beq_eq_false_iff_ne.2 h8
  have g9 : (op == 9) = false := beq_eq_false_iff_ne.2 h9
  have E : Hid (boolOut op a b = (zV, 1)) := by simp [Hid, boolOut, h7, h8, h9]
  go_enter Tryz.func93, Tryz.ntmps93
  go_wp2_with fail
  refine bodyPost_ret (v := .tuple #[.agg #[.int .i64 0, .int .i64 0, .float .f64 0, .float .f64 0], .int .i64 1]) (by simp [results, Tryz.results93, go_sem]) rfl (leaves_z E.out rfl ?_)
  (repeat (first | with_reducible exact Below.refl _ _ | with_reducible refine bl_alloc ?_ _ | with_reducible refine bl_drewN ?_ _ | with_reducible refine bl_drew ?_ | with_reducible refine bl_setCell ?_ (by first | exact Nat.le_refl _ | (dsimp only; omega) | (simp <;> omega)) _ | with_reducible refine bl_trans ?_ (by with_reducible assumption)))
end Go.Proofs.YtknallkcengbbaaGreatDoor
namespace Go.Proofs.YtknallkcengbbaaGreatDoor
open Go.RowKit

/-- what an op on two values comes to. -/
def opOut (op k i : Int) (x y : Nat) (l j : Int) (u v : Nat) : V × Int :=
  if okB k i x y = true ∧ okB l j u v = true ∧ k = l then
    if k = 1 then intOut op i j else if k = 2 then realOut op x u else if k = 3 then pairOut op x y u v else boolOut op (i == 1) (j == 1)
  else (zV, 1)

set_option maxHeartbeats 1000000 in
theorem implOp_any (op k i : Int) (x y : Nat) (l j : Int) (u v : Nat) (w : World) :
    Calls Tryz.prog 64 #[.int .i64 op, .agg #[.int .i64 k, .int .i64 i, .float .f64 x, .float .f64 y], .agg #[.int .i64 l, .int .i64 j, .float .f64 u, .float .f64 v]] w fun e w' => Leaves2 (opOut op k i x y l j u v) w e w' := by
  cases hx : okB k i x y
  · have E : Hid (opOut op k i x y l j u v = (zV, 1)) := by simp [Hid, opOut, hx]
    go_enter Tryz.func64, Tryz.ntmps64
    go_wp2_with (go_at_call 88; refine (implOk_any _ _ _ _ _).mono ?_; rintro e w' ⟨rfl, rfl⟩)
    refine bodyPost_ret (v := .tuple #[.agg #[.int .i64 0, .int .i64 0, .float .f64 0, .float .f64 0], .int .i64 1]) (by simp [results, Tryz.results64, go_sem]) rfl (leaves_z E.out rfl ?_)
    (repeat (first | with_reducible exact Below.refl _ _ | with_reducible refine bl_alloc ?_ _ | with_reducible refine bl_drewN ?_ _ | with_reducible refine bl_drew ?_ | with_reducible refine bl_setCell ?_ (by first | exact Nat.le_refl _ | (dsimp only; omega) | (simp <;> omega)) _ | with_reducible refine bl_trans ?_ (by with_reducible assumption)))
  cases hu : okB l j u v
  · have E : Hid (opOut op k i x y l j u v = (zV, 1)) := by simp [Hid, opOut, hu]
    go_enter Tryz.func64, Tryz.ntmps64
    go_wp2_with (go_at_call 88; refine (implOk_any _ _ _ _ _).mono ?_; rintro e w' ⟨rfl, rfl⟩)
    refine bodyPost_ret (v := .tuple #[.agg #[.int .i64 0, .int .i64 0, .float .f64 0, .float .f64 0], .int .i64 1]) (by simp [results, Tryz.results64, go_sem]) rfl (leaves_z E.out rfl ?_)
    (repeat (first | with_reducible exact Below.refl _ _ | with_reducible refine bl_alloc ?_ _ | with_reducible refine bl_drewN ?_ _ | with_reducible refine bl_drew ?_ | with_reducible refine bl_setCell ?_ (by first | exact Nat.le_refl _ | (dsimp only; omega) | (simp <;> omega)) _ | with_reducible refine bl_trans ?_ (by with_reducible assumption)))
  by_cases hk : k = l
  · subst hk
    by_cases h1 : k = 1
    · subst h1
      have E : Hid (opOut op 1 i x y 1 j u v = intOut op i j) := by simp [Hid, opOut, hx, hu]
      go_enter Tryz.func64, Tryz.ntmps64
      go_wp2_with ((go_at_call 88; refine (implOk_any _ _ _ _ _).mono ?_; rintro e w' ⟨rfl, rfl⟩))
      refine (intOp_any _ _ _ _).mono ?_
      rintro e w' ⟨k', i', x', y', rfl, hv, hb⟩
      obtain ⟨hc, hf⟩ := bcell hb
      go_wp2_with fail
      refine bodyPost_ret (v := .tuple #[.agg #[.int .i64 k', .int .i64 i', .float .f64 x', .float .f64 y'], .int .i64 (intOut op i j).2]) (by simp [results, Tryz.results64, go_sem, hc]) rfl ⟨k', i', x', y', by rw [E.out], by rw [E.out]; exact hv, ?_⟩
      (repeat (first | with_reducible exact Below.refl _ _ | with_reducible refine bl_alloc ?_ _ | with_reducible refine bl_drewN ?_ _ | with_reducible refine bl_drew ?_ | with_reducible refine bl_setCell ?_ (by first | exact Nat.le_refl _ | (dsimp only; omega) | (simp <;> omega)) _ | with_reducible refine bl_trans ?_ (by with_reducible assumption)))
    by_cases h2 : k = 2
    · subst h2
      have E : Hid (opOut op 2 i x y 2 j u v = realOut op x u) := by simp [Hid, opOut, hx, hu]
      go_enter Tryz.func64, Tryz.ntmps64
      go_wp2_with ((go_at_call 88; refine (implOk_any _ _ _ _ _).mono ?_; rintro e w' ⟨rfl, rfl⟩))
      refine (realOp_any _ _ _ _).mono ?_
      rintro e w' ⟨k', i', x', y', rfl, hv, hb⟩
      obtain ⟨hc, hf⟩ := bcell hb
      go_wp2_with fail
      refine bodyPost_ret (v := .tuple #[.agg #[.int .i64 k', .int .i64 i', .float .f64 x', .float .f64 y'], .int .i64 (realOut op x u).2]) (by simp [results, Tryz.results64, go_sem, hc]) rfl ⟨k', i', x', y', by rw [E.out], by rw [E.out]; exact hv, ?_⟩
      (repeat (first | with_reducible exact Below.refl _ _ | with_reducible refine bl_alloc ?_ _ | with_reducible refine bl_drewN ?_ _ | with_reducible refine bl_drew ?_ | with_reducible refine bl_setCell ?_ (by first | exact Nat.le_refl _ | (dsimp only; omega) | (simp <;> omega)) _ | with_reducible refine bl_trans ?_ (by with_reducible assumption)))
    by_cases h3 : k = 3
    · subst h3
      have E : Hid (opOut op 3 i x y 3 j u v = pairOut op x y u v) := by simp [Hid, opOut, hx, hu]
      go_enter Tryz.func64, Tryz.ntmps64
      go_wp2_with (go_at_call 88; refine (implOk_any _ _ _ _ _).mono ?_; rintro e w' ⟨rfl, rfl⟩)
      go_region_with (first | (go_at_call 92; refine (pairOf_any _ _ _ _ _).mono ?_; rintro e w' ⟨rfl, rfl⟩) | (go_at_call 91; refine (pairOp_any _ _ _ _ _ _).mono ?_; rintro e w' ⟨k', i', x', y', rfl, hv, hb⟩; obtain ⟨hc, hf⟩ := bcell hb))
      all_goals
        go_wp2_with fail
        refine bodyPost_ret (v := .tuple #[.agg #[.int .i64 k', .int .i64 i', .float .f64 x', .float .f64 y'], .int .i64 (pairOut op x y u v).2]) (by simp [results, Tryz.results64, go_sem, hc]) rfl ⟨k', i', x', y', by rw [E.out], by rw [E.out]; exact hv, ?_⟩
        (repeat (first | with_reducible exact Below.refl _ _ | with_reducible refine bl_alloc ?_ _ | with_reducible refine bl_drewN ?_ _ | with_reducible refine bl_drew ?_ | with_reducible refine bl_setCell ?_ (by first | exact Nat.le_refl _ | (dsimp only; omega) | (simp <;> omega)) _ | with_reducible refine bl_trans ?_ (by with_reducible assumption)))
    have h4 : k = 4 := by
      by_cases h : k = 4
      · exact h
      · simp [okB, h1, h2, h3, h] at hx
    subst h4
    · clear h1 h2 h3
      have E : Hid (opOut op 4 i x y 4 j u v = boolOut op (i == 1) (j == 1)) := by simp [Hid, opOut, hx, hu]
      go_enter Tryz.func64, Tryz.ntmps64
      go_wp2_with ((go_at_call 88; refine (implOk_any _ _ _ _ _).mono ?_; rintro e w' ⟨rfl, rfl⟩))
      refine (boolOp_any _ _ _ _).mono ?_
      rintro e w' ⟨k', i', x', y', rfl, hv, hb⟩
      obtain ⟨hc, hf⟩ := bcell hb
      go_wp2_with fail
      refine bodyPost_ret (v := .tuple #[.agg #[.int .i64 k', .int .i64 i', .float .f64 x', .float .f64 y'], .int .i64 (boolOut op (i == 1) (j == 1)).2]) (by simp [results, Tryz.results64, go_sem, hc]) rfl ⟨k', i', x', y', by rw [E.out], by rw [E.out]; exact hv, ?_⟩
      (repeat (first | with_reducible exact Below.refl _ _ | with_reducible refine bl_alloc ?_ _ | with_reducible refine bl_drewN ?_ _ | with_reducible refine bl_drew ?_ | with_reducible refine bl_setCell ?_ (by first | exact Nat.le_refl _ | (dsimp only; omega) | (simp <;> omega)) _ | with_reducible refine bl_trans ?_ (by with_reducible assumption)))
  · have E : Hid (opOut op k i x y l j u v = (zV, 1)) := by simp [Hid, opOut, hk]
    have gk : (k != l) = true := by simp [hk]
    go_enter Tryz.func64, Tryz.ntmps64
    go_wp2_with (go_at_call 88; refine (implOk_any _ _ _ _ _).mono ?_; rintro e w' ⟨rfl, rfl⟩)
    refine bodyPost_ret (v := .tuple #[.agg #[.int .i64 0, .int .i64 0, .float .f64 0, .float .f64 0], .int .i64 1]) (by simp [results, Tryz.results64, go_sem]) rfl (leaves_z E.out rfl ?_)
    (repeat (first | with_reducible exact Below.refl _ _ | with_reducible refine bl_alloc ?_ _ | with_reducible refine bl_drewN ?_ _ | with_reducible refine bl_drew ?_ | with_reducible refine bl_setCell ?_ (by first | exact Nat.le_refl _ | (dsimp only; omega) | (simp <;> omega)) _ | with_reducible refine bl_trans ?_ (by with_reducible assumption)))
end Go.Proofs.YtknallkcengbbaaGreatDoor
namespace Go.Proofs.YtknallkcengbbaaGreatDoor
open Go.RowKit

/-- the word with the other sign. -/
def negF (x : Nat) : Nat := x ^^^ 9223372036854775808

theorem negF_lt {x : Nat} (h : x < 18446744073709551616) : negF x < 18446744073709551616 := by
  unfold negF; exact Nat.xor_lt_two_pow (n := 64) h (by decide)

theorem run_neg (x : Nat) (w : World) : (Op.unary .neg (.float .f64 x)).run Tryz.prog w = .ok (.float .f64 (negF x)) w := rfl
theorem run_cneg (x y : Nat) (w : World) : (Op.unary .neg (.complex .f64 x y)).run Tryz.prog w = .ok (.complex .f64 (negF x) (negF y)) w := rfl

theorem ofInt_lt (n : Int) : floatOfInt .f64 n < 18446744073709551616 := by
  have := floatOfInt_wf .f64 n
  simpa [Lit.wf] using this

def sizeF (x y : Nat) : Option Nat := op2 .add (floatBits .mul .f64 x x) (floatBits .mul .f64 y y)

def intTurnOut (op i : Int) : V × Int :=
  if op = 1 then (iV (wrap64 (-i)), 0) else if op = 5 then (rV (some (floatOfInt .f64 i)), 0) else (zV, 1)
def realTurnOut (op : Int) (x : Nat) : V × Int := if op = 1 then (rV (some (negF x)), 0) else (zV, 1)
def pairTurnOut (op : Int) (x y : Nat) : V × Int :=
  if op = 1 then (pV (some (negF x)) (some (negF y)), 0) else if op = 3 then (rV (some x), 0) else if op = 4 then (rV (some y), 0) else if op = 6 then (rV (sizeF x y), 0) else (zV, 1)
def boolTurnOut (op : Int) (b : Bool) : V × Int := if op = 2 then (bV (!b), 0) else (zV, 1)
def turnOut (op k i : Int) (x y : Nat) : V × Int :=
  if okB k i x y = true then
    if k = 1 then intTurnOut op i else if k = 2 then realTurnOut op x else if k = 3 then pairTurnOut op x y else boolTurnOut op (i == 1)
  else (zV, 1)

set_option maxHeartbeats 1000000 in
theorem intTurn_any (op i : Int) (w : World) :
    Calls Tryz.prog 96 #[.int .i64 op, .int .i64 i] w fun e w' => Leaves2 (intTurnOut op i) w e w' := by
  by_cases h1 : op = 1
  · subst h1
    go_enter Tryz.func96, Tryz.ntmps96
    go_wp2_with (go_at_call 94; refine (intVal_any _ _).mono ?_; rintro e w' ⟨rfl, rfl⟩)
    refine bodyPost_ret (v := .tuple #[.agg #[.int .i64 1, .int .i64 (wrap64 (-i)), .float .f64 0, .float .f64 0], .int .i64 0]) (by simp [results, Tryz.results96, go_sem]) rfl (leaves_i rfl rfl ?_)
    (repeat (first | with_reducible exact Below.refl _ _ | with_reducible refine bl_alloc ?_ _ | with_reducible refine bl_drewN ?_ _ | with_reducible refine bl_drew ?_ | with_reducible refine bl_setCell ?_ (by first | exact Nat.le_refl _ | (dsimp only; omega) | (simp <;> omega)) _ | with_reducible refine bl_trans ?_ (by with_reducible assumption)))
  by_cases h5 : op = 5
  · subst h5
    go_enter Tryz.func96, Tryz.ntmps96
    go_wp2_with (go_at_call 116; refine (realVal_any _ _).mono ?_; rintro e w' ⟨rfl, rfl⟩)
    refine bodyPost_ret (v := .tuple #[.agg #[.int .i64 2, .int .i64 0, .float .f64 (floatOfInt .f64 i), .float .f64 0], .int .i64 0]) (by simp [results, Tryz.results96, go_sem]) rfl (leaves_r rfl (is_some (ofInt_lt i)) rfl ?_)
    (repeat (first | with_reducible exact Below.refl _ _ | with_reducible refine bl_alloc ?_ _ | with_reducible refine bl_drewN ?_ _ | with_reducible refine bl_drew ?_ | with_reducible refine bl_setCell ?_ (by first | exact Nat.le_refl _ | (dsimp only; omega) | (simp <;> omega)) _ | with_reducible refine bl_trans ?_ (by with_reducible assumption)))
  have g1 : (op == 1) = false := beq_eq_false_iff_ne.2 h1
  have g5 : (op == 5) = false := beq_eq_false_iff_ne.2 h5
  have E : Hid (intTurnOut op i = (zV, 1)) := by simp [Hid, intTurnOut, h1, h5]
  go_enter Tryz.func96, Tryz.ntmps96
  go_wp2_with fail
  refine bodyPost_ret (v := .tuple #[.agg #[.int .i64 0, .int .i64 0, .float .f64 0, .float .f64 0], .int .i64 1]) (by simp [results, Tryz.results96, go_sem]) rfl (leaves_z E.out rfl ?_)
  (repeat (first | with_reducible exact Below.refl _ _ | with_reducible refine bl_alloc ?_ _ | with_reducible refine bl_drewN ?_ _ | with_reducible refine bl_drew ?_ | with_reducible refine bl_setCell ?_ (by first | exact Nat.le_refl _ | (dsimp only; omega) | (simp <;> omega)) _ | with_reducible refine bl_trans ?_ (by with_reducible assumption)))

set_option maxHeartbeats 1000000 in
theorem realTurn_any (op : Int) (x : Nat) (w : World) (lx : x < 18446744073709551616) :
    Calls Tryz.prog 97 #[.int .i64 op, .float .f64 x] w fun e w' => Leaves2 (realTurnOut op x) w e w' := by
  have hn := run_neg
  by_cases h1 : op = 1
  · subst h1
    go_enter Tryz.func97, Tryz.ntmps97
    go_wp2_with (go_at_call 116; refine (realVal_any _ _).mono ?_; rintro e w' ⟨rfl, rfl⟩)
    refine bodyPost_ret (v := .tuple #[.agg #[.int .i64 2, .int .i64 0, .float .f64 (negF x), .float .f64 0], .int .i64 0]) (by simp [results, Tryz.results97, go_sem]) rfl (leaves_r rfl (is_some (negF_lt lx)) rfl ?_)
    (repeat (first | with_reducible exact Below.refl _ _ | with_reducible refine bl_alloc ?_ _ | with_reducible refine bl_drewN ?_ _ | with_reducible refine bl_drew ?_ | with_reducible refine bl_setCell ?_ (by first | exact Nat.le_refl _ | (dsimp only; omega) | (simp <;> omega)) _ | with_reducible refine bl_trans ?_ (by with_reducible assumption)))
  have g1 : (op == 1) = false := beq_eq_false_iff_ne.2 h1
  have E : Hid (realTurnOut op x = (zV, 1)) := by simp [Hid, realTurnOut, h1]
  go_enter Tryz.func97, Tryz.ntmps97
  go_wp2_with fail
  refine bodyPost_ret (v := .tuple #[.agg #[.int .i64 0, .int .i64 0, .float .f64 0, .float .f64 0], .int .i64 1]) (by simp [results, Tryz.results97, go_sem]) rfl (leaves_z E.out rfl ?_)
  (repeat (first | with_reducible exact Below.refl _ _ | with_reducible refine bl_alloc ?_ _ | with_reducible refine bl_drewN ?_ _ | with_reducible refine bl_drew ?_ | with_reducible refine bl_setCell ?_ (by first | exact Nat.le_refl _ | (dsimp only; omega) | (simp <;> omega)) _ | with_reducible refine bl_trans ?_ (by with_reducible assumption)))

set_option maxHeartbeats 1000000 in
theorem pairSize_any (a b : Nat) (w : World) :
    Calls Tryz.prog 119 #[.complex .f64 a b] w fun e w' => ∃ r n, e = .returned (.float .f64 r) ∧ Is (sizeF a b) r ∧ w' = w.drewN n := by
  have hm := fun t x y w => run_float_any (P := Tryz.prog) .mul rfl t x y w
  have ha := fun t x y w => run_float_any (P := Tryz.prog) .add rfl t x y w
  go_enter Tryz.func119, Tryz.ntmps119
  go_wp2
  go_ret
  exact ⟨_, _, rfl, Is.op2 (fres_is _ _ _ _) (fres_is _ _ _ _) (fres_is _ _ _ _), rfl⟩

set_option maxHeartbeats 1000000 in
theorem pairTurn_any (op : Int) (x y : Nat) (w : World) (lx : x < 18446744073709551616) (ly : y < 18446744073709551616) :
    Calls Tryz.prog 98 #[.int .i64 op, .complex .f64 x y] w fun e w' => Leaves2 (pairTurnOut op x y) w e w' := by
  have hn := run_cneg
  by_cases h1 : op = 1
  · subst h1
    go_enter Tryz.func98, Tryz.ntmps98
    go_wp2_with (go_at_call 117; refine (pairVal_any _ _ _).mono ?_; rintro e w' ⟨rfl, rfl⟩)
    refine bodyPost_ret (v := .tuple #[.agg #[.int .i64 3, .int .i64 0, .float .f64 (negF x), .float .f64 (negF y)], .int .i64 0]) (by simp [results, Tryz.results98, go_sem]) rfl (leaves_p rfl (is_some (negF_lt lx)) (is_some (negF_lt ly)) rfl ?_)
    (repeat (first | with_reducible exact Below.refl _ _ | with_reducible refine bl_alloc ?_ _ | with_reducible refine bl_drewN ?_ _ | with_reducible refine bl_drew ?_ | with_reducible refine bl_setCell ?_ (by first | exact Nat.le_refl _ | (dsimp only; omega) | (simp <;> omega)) _ | with_reducible refine bl_trans ?_ (by with_reducible assumption)))
  by_cases h3 : op = 3
  · subst h3
    go_enter Tryz.func98, Tryz.ntmps98
    go_wp2_with (go_at_call 116; refine (realVal_any _ _).mono ?_; rintro e w' ⟨rfl, rfl⟩)
    refine bodyPost_ret (v := .tuple #[.agg #[.int .i64 2, .int .i64 0, .float .f64 x, .float .f64 0], .int .i64 0]) (by simp [results, Tryz.results98, go_sem]) rfl (leaves_r rfl (is_some lx) rfl ?_)
    (repeat (first | with_reducible exact Below.refl _ _ | with_reducible refine bl_alloc ?_ _ | with_reducible refine bl_drewN ?_ _ | with_reducible refine bl_drew ?_ | with_reducible refine bl_setCell ?_ (by first | exact Nat.le_refl _ | (dsimp only; omega) | (simp <;> omega)) _ | with_reducible refine bl_trans ?_ (by with_reducible assumption)))
  by_cases h4 : op = 4
  · subst h4
    go_enter Tryz.func98, Tryz.ntmps98
    go_wp2_with (go_at_call 116; refine (realVal_any _ _).mono ?_; rintro e w' ⟨rfl, rfl⟩)
    refine bodyPost_ret (v := .tuple #[.agg #[.int .i64 2, .int .i64 0, .float .f64 y, .float .f64 0], .int .i64 0]) (by simp [results, Tryz.results98, go_sem]) rfl (leaves_r rfl (is_some ly) rfl ?_)
    (repeat (first | with_reducible exact Below.refl _ _ | with_reducible refine bl_alloc ?_ _ | with_reducible refine bl_drewN ?_ _ | with_reducible refine bl_drew ?_ | with_reducible refine bl_setCell ?_ (by first | exact Nat.le_refl _ | (dsimp only; omega) | (simp <;> omega)) _ | with_reducible refine bl_trans ?_ (by with_reducible assumption)))
  by_cases h6 : op = 6
  · subst h6
    go_enter Tryz.func98, Tryz.ntmps98
    go_wp2_with fail
    refine (pairSize_any _ _ _).mono ?_
    rintro e w' ⟨r, n, rfl, hr, rfl⟩
    go_wp2_with (go_at_call 116; refine (realVal_any _ _).mono ?_; rintro e w' ⟨rfl, rfl⟩)
    refine bodyPost_ret (v := .tuple #[.agg #[.int .i64 2, .int .i64 0, .float .f64 r, .float .f64 0], .int .i64 0]) (by simp [results, Tryz.results98, go_sem]) rfl (leaves_r rfl hr rfl ?_)
    (repeat (first | with_reducible exact Below.refl _ _ | with_reducible refine bl_alloc ?_ _ | with_reducible refine bl_drewN ?_ _ | with_reducible refine bl_drew ?_ | with_reducible refine bl_setCell ?_ (by first | exact Nat.le_refl _ | (dsimp only; omega) | (simp <;> omega)) _ | with_reducible refine bl_trans ?_ (by with_reducible assumption)))
  have g1 : (op == 1) = false := beq_eq_false_iff_ne.2 h1
  have g3 : (op == 3) = false := beq_eq_false_iff_ne.2 h3
  have g4 : (op == 4) = false := beq_eq_false_iff_ne.2 h4
  have g6 : (op == 6) = false := beq_eq_false_iff_ne.2 h6
  have E : Hid (pairTurnOut op x y = (zV, 1)) := by simp [Hid, pairTurnOut, h1, h3, h4, h6]
  go_enter Tryz.func98, Tryz.ntmps98
  go_wp2_with fail
  refine bodyPost_ret (v := .tuple #[.agg #[.int .i64 0, .int .i64 0, .float .f64 0, .float .f64 0], .int .i64 1]) (by simp [results, Tryz.results98, go_sem]) rfl (leaves_z E.out rfl ?_)
  (repeat (first | with_reducible exact Below.refl _ _ | with_reducible refine bl_alloc ?_ _ | with_reducible refine bl_drewN ?_ _ | with_reducible refine bl_drew ?_ | with_reducible refine bl_setCell ?_ (by first | exact Nat.le_refl _ | (dsimp only; omega) | (simp <;> omega)) _ | with_reducible refine bl_trans ?_ (by with_reducible assumption)))

set_option maxHeartbeats 1000000 in
theorem boolTurn_any (op : Int) (b : Bool) (w : World) :
    Calls Tryz.prog 99 #[.int .i64 op, .bool b] w fun e w' => Leaves2 (boolTurnOut op b) w e w' := by
  by_cases h2 : op = 2
  · subst h2
    go_enter Tryz.func99, Tryz.ntmps99
    go_wp2_with (go_at_call 95; refine (boolVal_any _ _).mono ?_; rintro e w' ⟨rfl, rfl⟩)
    refine bodyPost_ret (v := .tuple #[.agg #[.int .i64 4, .int .i64 (bN (!b)), .float .f64 0, .float .f64 0], .int .i64 0]) (by simp [results, Tryz.results99, go_sem]) rfl (leaves_b rfl rfl ?_)
    (repeat (first | with_reducible exact Below.refl _ _ | with_reducible refine bl_alloc ?_ _ | with_reducible refine bl_drewN ?_ _ | with_reducible refine bl_drew ?_ | with_reducible refine bl_setCell ?_ (by first | exact Nat.le_refl _ | (dsimp only; omega) | (simp <;> omega)) _ | with_reducible refine bl_trans ?_ (by with_reducible assumption)))
  have g2 : (op == 2) = false := beq_eq_false_iff_ne.2 h2
  have E : Hid (boolTurnOut op b = (zV, 1)) := by simp [Hid, boolTurnOut, h2]
  go_enter Tryz.func99, Tryz.ntmps99
  go_wp2_with fail
  refine bodyPost_ret (v := .tuple #[.agg #[.int .i64 0, .int .i64 0, .float .f64 0, .float .f64 0], .int .i64 1]) (by simp [results, Tryz.results99, go_sem]) rfl (leaves_z E.out rfl ?_)
  (repeat (first | with_reducible exact Below.refl _ _ | with_reducible refine bl_alloc ?_ _ | with_reducible refine bl_drewN ?_ _ | with_reducible refine bl_drew ?_ | with_reducible refine bl_setCell ?_ (by first | exact Nat.le_refl _ | (dsimp only; omega) | (simp <;> omega)) _ | with_reducible refine bl_trans ?_ (by with_reducible assumption)))

set_option maxHeartbeats 1000000 in
theorem implTurn_any (op k i : Int) (x y : Nat) (w : World) (lx : x < 18446744073709551616) (ly : y < 18446744073709551616) :
    Calls Tryz.prog 66 #[.int .i64 op, .agg #[.int .i64 k, .int .i64 i, .float .f64 x, .float .f64 y]] w fun e w' => Leaves2 (turnOut op k i x y) w e w' := by
  cases hx : okB k i x y
  · have E : Hid (turnOut op k i x y = (zV, 1)) := by simp [Hid, turnOut, hx]
    go_enter Tryz.func66, Tryz.ntmps66
    go_wp2_with (go_at_call 88; refine (implOk_any _ _ _ _ _).mono ?_; rintro e w' ⟨rfl, rfl⟩)
    refine bodyPost_ret (v := .tuple #[.agg #[.int .i64 0, .int .i64 0, .float .f64 0, .float .f64 0], .int .i64 1]) (by simp [results, Tryz.results66, go_sem]) rfl (leaves_z E.out rfl ?_)
    (repeat (first | with_reducible exact Below.refl _ _ | with_reducible refine bl_alloc ?_ _ | with_reducible refine bl_drewN ?_ _ | with_reducible refine bl_drew ?_ | with_reducible refine bl_setCell ?_ (by first | exact Nat.le_refl _ | (dsimp only; omega) | (simp <;> omega)) _ | with_reducible refine bl_trans ?_ (by with_reducible assumption)))
  by_cases h1 : k = 1
  · subst h1
    have E : Hid (turnOut op 1 i x y = intTurnOut op i) := by simp [Hid, turnOut, hx]
    go_enter Tryz.func66, Tryz.ntmps66
    go_wp2_with ((go_at_call 88; refine (implOk_any _ _ _ _ _).mono ?_; rintro e w' ⟨rfl, rfl⟩))
    refine (intTurn_any _ _ _).mono ?_
    rintro e w' ⟨k', i', x', y', rfl, hv, hb⟩
    obtain ⟨hc, hf⟩ := bcell hb
    go_wp2_with fail
    refine bodyPost_ret (v := .tuple #[.agg #[.int .i64 k', .int .i64 i', .float .f64 x', .float .f64 y'], .int .i64 (intTurnOut op i).2]) (by simp [results, Tryz.results66, go_sem, hc]) rfl ⟨k', i', x', y', by rw [E.out], by rw [E.out]; exact hv, ?_⟩
    (repeat (first | with_reducible exact Below.refl _ _ | with_reducible refine bl_alloc ?_ _ | with_reducible refine bl_drewN ?_ _ | with_reducible refine bl_drew ?_ | with_reducible refine bl_setCell ?_ (by first | exact Nat.le_refl _ | (dsimp only; omega) | (simp <;> omega)) _ | with_reducible refine bl_trans ?_ (by with_reducible assumption)))
  by_cases h2 : k = 2
  · subst h2
    have E : Hid (turnOut op 2 i x y = realTurnOut op x) := by simp [Hid, turnOut, hx]
    go_enter Tryz.func66, Tryz.ntmps66
    go_wp2_with ((go_at_call 88; refine (implOk_any _ _ _ _ _).mono ?_; rintro e w' ⟨rfl, rfl⟩))
    refine (realTurn_any _ _ _ lx).mono ?_
    rintro e w' ⟨k', i', x', y', rfl, hv, hb⟩
    obtain ⟨hc, hf⟩ := bcell hb
    go_wp2_with fail
    refine bodyPost_ret (v := .tuple #[.agg #[.int .i64 k', .int .i64 i', .float .f64 x', .float .f64 y'], .int .i64 (realTurnOut op x).2]) (by simp [results, Tryz.results66, go_sem, hc]) rfl ⟨k', i', x', y', by rw [E.out], by rw [E.out]; exact hv, ?_⟩
    (repeat (first | with_reducible exact Below.refl _ _ | with_reducible refine bl_alloc ?_ _ | with_reducible refine bl_drewN ?_ _ | with_reducible refine bl_drew ?_ | with_reducible refine bl_setCell ?_ (by first | exact Nat.le_refl _ | (dsimp only; omega) | (simp <;> omega)) _ | with_reducible refine bl_trans ?_ (by with_reducible assumption)))
  by_cases h3 : k = 3
  · subst h3
    have E : Hid (turnOut op 3 i x y = pairTurnOut op x y) := by simp [Hid, turnOut, hx]
    go_enter Tryz.func66, Tryz.ntmps66
    go_wp2_with (first | (go_at_call 88; refine (implOk_any _ _ _ _ _).mono ?_; rintro e w' ⟨rfl, rfl⟩) | (go_at_call 92; refine (pairOf_any _ _ _ _ _).mono ?_; rintro e w' ⟨rfl, rfl⟩))
    refine (pairTurn_any _ _ _ _ lx ly).mono ?_
    rintro e w' ⟨k', i', x', y', rfl, hv, hb⟩
    obtain ⟨hc, hf⟩ := bcell hb
    go_wp2_with fail
    refine bodyPost_ret (v := .tuple #[.agg #[.int .i64 k', .int .i64 i', .float .f64 x', .float .f64 y'], .int .i64 (pairTurnOut op x y).2]) (by simp [results, Tryz.results66, go_sem, hc]) rfl ⟨k', i', x', y', by rw [E.out], by rw [E.out]; exact hv, ?_⟩
    (repeat (first | with_reducible exact Below.refl _ _ | with_reducible refine bl_alloc ?_ _ | with_reducible refine bl_drewN ?_ _ | with_reducible refine bl_drew ?_ | with_reducible refine bl_setCell ?_ (by first | exact Nat.le_refl _ | (dsimp only; omega) | (simp <;> omega)) _ | with_reducible refine bl_trans ?_ (by with_reducible assumption)))
  have h4 : k = 4 := by
    by_cases h : k = 4
    · exact h
    · simp [okB, h1, h2, h3, h] at hx
  subst h4
  · clear h1 h2 h3
    have E : Hid (turnOut op 4 i x y = boolTurnOut op (i == 1)) := by simp [Hid, turnOut, hx]
    go_enter Tryz.func66, Tryz.ntmps66
    go_wp2_with ((go_at_call 88; refine (implOk_any _ _ _ _ _).mono ?_; rintro e w' ⟨rfl, rfl⟩))
    refine (boolTurn_any _ _ _).mono ?_
    rintro e w' ⟨k', i', x', y', rfl, hv, hb⟩
    obtain ⟨hc, hf⟩ := bcell hb
    go_wp2_with fail
    refine bodyPost_ret (v := .tuple #[.agg #[.int .i64 k', .int .i64 i', .float .f64 x', .float .f64 y'], .int .i64 (boolTurnOut op (i == 1)).2]) (by simp [results, Tryz.results66, go_sem, hc]) rfl ⟨k', i', x', y', by rw [E.out], by rw [E.out]; exact hv, ?_⟩
    (repeat (first | with_reducible exact Below.refl _ _ | with_reducible refine bl_alloc ?_ _ | with_reducible refine bl_drewN ?_ _ | with_reducible refine bl_drew ?_ | with_reducible refine bl_setCell ?_ (by first | exact Nat.le_refl _ | (dsimp only; omega) | (simp <;> omega)) _ | with_reducible refine bl_trans ?_ (by with_reducible assumption)))
end Go.Proofs.YtknallkcengbbaaGreatDoor
