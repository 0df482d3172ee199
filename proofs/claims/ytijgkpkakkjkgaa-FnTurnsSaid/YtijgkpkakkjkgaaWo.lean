import Derived.Test.YtijgkpkakkjkgaaWc
namespace Go.Proofs.Ytijgkpkakkjkgaa
open Go.RowKit

/-- what a value may be: its kind, its whole number, its two floats (none: any NaN). -/
abbrev V := Int × Int × Option Nat × Option Nat
def VIs (o : V) (k i : Int) (x y : Nat) : Prop := k = o.1 ∧ i = o.2.1 ∧ Is o.2.2.1 x ∧ Is o.2.2.2 y
def zV : V := (0, 0, some 0, some 0)
def iV (n : Int) : V := (1, n, some 0, some 0)
def rV (o : Option Nat) : V := (2, 0, o, some 0)
def pV (o p : Option Nat) : V := (3, 0, o, p)
def bN (b : Bool) : Int := if b then 1 else 0
def bV (b : Bool) : V := (4, bN b, some 0, some 0)

theorem is_zero : Is (some 0) 0 := ⟨by decide, Or.inl rfl⟩
theorem is_some {x : Nat} (h : x < 18446744073709551616) : Is (some x) x := ⟨h, Or.inl rfl⟩
theorem is_zV : VIs zV 0 0 0 0 := ⟨rfl, rfl, is_zero, is_zero⟩
theorem is_iV (n : Int) : VIs (iV n) 1 n 0 0 := ⟨rfl, rfl, is_zero, is_zero⟩
theorem is_bV (b : Bool) : VIs (bV b) 4 (bN b) 0 0 := ⟨rfl, rfl, is_zero, is_zero⟩
theorem is_rV {o : Option Nat} {x : Nat} (h : Is o x) : VIs (rV o) 2 0 x 0 := ⟨rfl, rfl, h, is_zero⟩
theorem is_pV {o p : Option Nat} {x y : Nat} (h : Is o x) (g : Is p y) : VIs (pV o p) 3 0 x y := ⟨rfl, rfl, h, g⟩

set_option maxHeartbeats 400000 in
theorem intVal_any (n : Int) (w : World) :
    Calls Try.prog 72 #[.int .i64 n] w fun e w' => e = .returned (.agg #[.int .i64 1, .int .i64 n, .float .f64 0, .float .f64 0]) ∧ w' = w.alloc (.cells #[.int .i64 1, .int .i64 n, .float .f64 0, .float .f64 0] 43) := by
  go_enter Try.func72, Try.ntmps72
  go_wp2
  refine bodyPost_ret (v := .agg #[.int .i64 1, .int .i64 n, .float .f64 0, .float .f64 0]) (by simp [results, Try.results72, go_sem]) rfl ⟨rfl, rfl⟩

set_option maxHeartbeats 400000 in
theorem realVal_any (x : Nat) (w : World) :
    Calls Try.prog 75 #[.float .f64 x] w fun e w' => e = .returned (.agg #[.int .i64 2, .int .i64 0, .float .f64 x, .float .f64 0]) ∧ w' = w.alloc (.cells #[.int .i64 2, .int .i64 0, .float .f64 x, .float .f64 0] 43) := by
  go_enter Try.func75, Try.ntmps75
  go_wp2
  refine bodyPost_ret (v := .agg #[.int .i64 2, .int .i64 0, .float .f64 x, .float .f64 0]) (by simp [results, Try.results75, go_sem]) rfl ⟨rfl, rfl⟩

set_option maxHeartbeats 400000 in
theorem pairVal_any (x y : Nat) (w : World) :
    Calls Try.prog 76 #[.complex .f64 x y] w fun e w' => e = .returned (.agg #[.int .i64 3, .int .i64 0, .float .f64 x, .float .f64 y]) ∧ w' = w.alloc (.cells #[.int .i64 3, .int .i64 0, .float .f64 x, .float .f64 y] 43) := by
  go_enter Try.func76, Try.ntmps76
  go_wp2
  refine bodyPost_ret (v := .agg #[.int .i64 3, .int .i64 0, .float .f64 x, .float .f64 y]) (by simp [results, Try.results76, go_sem]) rfl ⟨rfl, rfl⟩

set_option maxHeartbeats 400000 in
theorem boolVal_any (b : Bool) (w : World) :
    Calls Try.prog 74 #[.bool b] w fun e w' => e = .returned (.agg #[.int .i64 4, .int .i64 (bN b), .float .f64 0, .float .f64 0]) ∧ w' = w.alloc (.cells #[.int .i64 4, .int .i64 (bN b), .float .f64 0, .float .f64 0] 43) := by
  cases b
  all_goals
    go_enter Try.func74, Try.ntmps74
    go_wp2
  · refine bodyPost_ret (v := .agg #[.int .i64 4, .int .i64 0, .float .f64 0, .float .f64 0]) (by simp [results, Try.results74, go_sem]) rfl ⟨rfl, rfl⟩
  · refine bodyPost_ret (v := .agg #[.int .i64 4, .int .i64 1, .float .f64 0, .float .f64 0]) (by simp [results, Try.results74, go_sem]) rfl ⟨rfl, rfl⟩

set_option maxHeartbeats 400000 in
theorem l1Bool_any (b : Bool) (w : World) :
    Calls Try.prog 54 #[.bool b] w fun e w' => e = .returned (.agg #[.int .i64 4, .int .i64 (bN b), .float .f64 0, .float .f64 0]) ∧ w' = w.alloc (.cells #[.int .i64 4, .int .i64 (bN b), .float .f64 0, .float .f64 0] 43) := by
  cases b
  all_goals
    go_enter Try.func54, Try.ntmps54
    go_wp2
  · refine bodyPost_ret (v := .agg #[.int .i64 4, .int .i64 0, .float .f64 0, .float .f64 0]) (by simp [results, Try.results54, go_sem]) rfl ⟨rfl, rfl⟩
  · refine bodyPost_ret (v := .agg #[.int .i64 4, .int .i64 1, .float .f64 0, .float .f64 0]) (by simp [results, Try.results54, go_sem]) rfl ⟨rfl, rfl⟩

set_option maxHeartbeats 400000 in
theorem pairOf_any (k i : Int) (x y : Nat) (w : World) :
    Calls Try.prog 49 #[.agg #[.int .i64 k, .int .i64 i, .float .f64 x, .float .f64 y]] w fun e w' => e = .returned (.complex .f64 x y) ∧ w' = w.alloc (.cells #[.int .i64 k, .int .i64 i, .float .f64 x, .float .f64 y] 43) := by
  go_enter Try.func49, Try.ntmps49
  go_wp2
  go_ret
  exact ⟨rfl, rfl⟩

/-- whole numbers: what an op comes to. -/
def intOut (op a b : Int) : V × Int :=
  if op = 1 then (iV (wrap64 (a + b)), 0) else if op = 2 then (iV (wrap64 (a - b)), 0) else if op = 3 then (iV (wrap64 (a * b)), 0)
  else if op = 4 then (if b = 0 then (zV, 2) else (iV (wrap64 (a.tdiv b)), 0)) else if op = 5 then (if b = 0 then (zV, 2) else (iV (a.tmod b), 0))
  else if op = 6 then (bV (decide (a < b)), 0) else if op = 7 then (bV (a == b), 0) else (zV, 1)


/-- what a call of an op leaves: a value that may be what is told, its code; old memory as it was. -/
def Leaves2 (o : V × Int) (w : World) (e : Ending) (w' : World) : Prop :=
  ∃ (k i : Int) (x y : Nat), e = .returned (.tuple #[.agg #[.int .i64 k, .int .i64 i, .float .f64 x, .float .f64 y], .int .i64 o.2]) ∧ VIs o.1 k i x y ∧ Below w.heap.size w w'

theorem leaves_i {o : V × Int} {w : World} {e : Ending} {w' : World} {n : Int} (ho : o = (iV n, 0)) (he : e = .returned (.tuple #[.agg #[.int .i64 1, .int .i64 n, .float .f64 0, .float .f64 0], .int .i64 0])) (hb : Below w.heap.size w w') : Leaves2 o w e w' := by
  subst ho; exact ⟨_, _, _, _, he, is_iV n, hb⟩
theorem leaves_b {o : V × Int} {w : World} {e : Ending} {w' : World} {b : Bool} (ho : o = (bV b, 0)) (he : e = .returned (.tuple #[.agg #[.int .i64 4, .int .i64 (bN b), .float .f64 0, .float .f64 0], .int .i64 0])) (hb : Below w.heap.size w w') : Leaves2 o w e w' := by
  subst ho; exact ⟨_, _, _, _, he, is_bV b, hb⟩
theorem leaves_z {o : V × Int} {w : World} {e : Ending} {w' : World} {c : Int} (ho : o = (zV, c)) (he : e = .returned (.tuple #[.agg #[.int .i64 0, .int .i64 0, .float .f64 0, .float .f64 0], .int .i64 c])) (hb : Below w.heap.size w w') : Leaves2 o w e w' := by
  subst ho; exact ⟨_, _, _, _, he, is_zV, hb⟩
theorem leaves_r {o : V × Int} {w : World} {e : Ending} {w' : World} {q : Option Nat} {x : Nat} (ho : o = (rV q, 0)) (hq : Is q x) (he : e = .returned (.tuple #[.agg #[.int .i64 2, .int .i64 0, .float .f64 x, .float .f64 0], .int .i64 0])) (hb : Below w.heap.size w w') : Leaves2 o w e w' := by
  subst ho; exact ⟨_, _, _, _, he, is_rV hq, hb⟩
theorem leaves_p {o : V × Int} {w : World} {e : Ending} {w' : World} {q r : Option Nat} {x y : Nat} (ho : o = (pV q r, 0)) (hq : Is q x) (hr : Is r y) (he : e = .returned (.tuple #[.agg #[.int .i64 3, .int .i64 0, .float .f64 x, .float .f64 y], .int .i64 0])) (hb : Below w.heap.size w w') : Leaves2 o w e w' := by
  subst ho; exact ⟨_, _, _, _, he, is_pV hq hr, hb⟩

set_option maxHeartbeats 400000 in
theorem share_zero (op a : Int) (w : World) :
    Calls Try.prog 73 #[.int .i64 op, .int .i64 a, .int .i64 0] w fun e w' => e = .returned (.tuple #[.agg #[.int .i64 0, .int .i64 0, .float .f64 0, .float .f64 0], .int .i64 2]) ∧ w' = w.alloc (.cells #[.int .i64 0, .int .i64 0, .float .f64 0, .float .f64 0] 43) := by
  go_enter Try.func73, Try.ntmps73
  go_wp2_with fail
  refine bodyPost_ret (v := .tuple #[.agg #[.int .i64 0, .int .i64 0, .float .f64 0, .float .f64 0], .int .i64 2]) (by simp [results, Try.results73, go_sem]) rfl ⟨rfl, rfl⟩

set_option maxHeartbeats 400000 in
theorem share_div (a b : Int) (w : World) (h : ¬ b = 0) :
    Calls Try.prog 73 #[.int .i64 4, .int .i64 a, .int .i64 b] w fun e w' => e = .returned (.tuple #[.agg #[.int .i64 1, .int .i64 (wrap64 (a.tdiv b)), .float .f64 0, .float .f64 0], .int .i64 0]) ∧ w' = (w.alloc (.cells #[.int .i64 1, .int .i64 (wrap64 (a.tdiv b)), .float .f64 0, .float .f64 0] 43)).alloc (.cells #[.int .i64 1, .int .i64 (wrap64 (a.tdiv b)), .float .f64 0, .float .f64 0] 43) := by
  have g : (b == 0) = false := beq_eq_false_iff_ne.2 h
  go_enter Try.func73, Try.ntmps73
  go_wp2_with (go_at_call 72; refine (intVal_any _ _).mono ?_; rintro e w' ⟨rfl, rfl⟩)
  refine bodyPost_ret (v := .tuple #[.agg #[.int .i64 1, .int .i64 (wrap64 (a.tdiv b)), .float .f64 0, .float .f64 0], .int .i64 0]) (by simp [results, Try.results73, go_sem]) rfl ⟨rfl, rfl⟩

set_option maxHeartbeats 400000 in
theorem share_mod (a b : Int) (w : World) (h : ¬ b = 0) :
    Calls Try.prog 73 #[.int .i64 5, .int .i64 a, .int .i64 b] w fun e w' => e = .returned (.tuple #[.agg #[.int .i64 1, .int .i64 (a.tmod b), .float .f64 0, .float .f64 0], .int .i64 0]) ∧ w' = (w.alloc (.cells #[.int .i64 1, .int .i64 (a.tmod b), .float .f64 0, .float .f64 0] 43)).alloc (.cells #[.int .i64 1, .int .i64 (a.tmod b), .float .f64 0, .float .f64 0] 43) := by
  have g : (b == 0) = false := beq_eq_false_iff_ne.2 h
  go_enter Try.func73, Try.ntmps73
  go_wp2_with (go_at_call 72; refine (intVal_any _ _).mono ?_; rintro e w' ⟨rfl, rfl⟩)
  refine bodyPost_ret (v := .tuple #[.agg #[.int .i64 1, .int .i64 (a.tmod b), .float .f64 0, .float .f64 0], .int .i64 0]) (by simp [results, Try.results73, go_sem]) rfl ⟨rfl, rfl⟩

set_option maxHeartbeats 1000000 in
theorem intOp_any (op a b : Int) (w : World) :
    Calls Try.prog 46 #[.int .i64 op, .int .i64 a, .int .i64 b] w fun e w' => Leaves2 (intOut op a b) w e w' := by
  by_cases h1 : op = 1
  · subst h1
    go_enter Try.func46, Try.ntmps46
    go_wp2_with ((go_at_call 72; refine (intVal_any _ _).mono ?_; rintro e w' ⟨rfl, rfl⟩))
    refine bodyPost_ret (v := .tuple #[.agg #[.int .i64 1, .int .i64 (wrap64 (a + b)), .float .f64 0, .float .f64 0], .int .i64 0]) (by simp [results, Try.results46, go_sem]) rfl (leaves_i rfl rfl ?_)
    (repeat (first | with_reducible exact Below.refl _ _ | with_reducible refine bl_alloc ?_ _ | with_reducible refine bl_drewN ?_ _ | with_reducible refine bl_drew ?_ | with_reducible refine bl_setCell ?_ (by first | exact Nat.le_refl _ | (dsimp only; omega) | (simp <;> omega)) _ | with_reducible refine bl_trans ?_ (by with_reducible assumption)))
  by_cases h2 : op = 2
  · subst h2
    go_enter Try.func46, Try.ntmps46
    go_wp2_with ((go_at_call 72; refine (intVal_any _ _).mono ?_; rintro e w' ⟨rfl, rfl⟩))
    refine bodyPost_ret (v := .tuple #[.agg #[.int .i64 1, .int .i64 (wrap64 (a - b)), .float .f64 0, .float .f64 0], .int .i64 0]) (by simp [results, Try.results46, go_sem]) rfl (leaves_i rfl rfl ?_)
    (repeat (first | with_reducible exact Below.refl _ _ | with_reducible refine bl_alloc ?_ _ | with_reducible refine bl_drewN ?_ _ | with_reducible refine bl_drew ?_ | with_reducible refine bl_setCell ?_ (by first | exact Nat.le_refl _ | (dsimp only; omega) | (simp <;> omega)) _ | with_reducible refine bl_trans ?_ (by with_reducible assumption)))
  by_cases h3 : op = 3
  · subst h3
    go_enter Try.func46, Try.ntmps46
    go_wp2_with ((go_at_call 72; refine (intVal_any _ _).mono ?_; rintro e w' ⟨rfl, rfl⟩))
    refine bodyPost_ret (v := .tuple #[.agg #[.int .i64 1, .int .i64 (wrap64 (a * b)), .float .f64 0, .float .f64 0], .int .i64 0]) (by simp [results, Try.results46, go_sem]) rfl (leaves_i rfl rfl ?_)
    (repeat (first | with_reducible exact Below.refl _ _ | with_reducible refine bl_alloc ?_ _ | with_reducible refine bl_drewN ?_ _ | with_reducible refine bl_drew ?_ | with_reducible refine bl_setCell ?_ (by first | exact Nat.le_refl _ | (dsimp only; omega) | (simp <;> omega)) _ | with_reducible refine bl_trans ?_ (by with_reducible assumption)))
  by_cases h6 : op = 6
  · subst h6
    go_enter Try.func46, Try.ntmps46
    go_wp2_with ((go_at_call 74; refine (boolVal_any _ _).mono ?_; rintro e w' ⟨rfl, rfl⟩))
    refine bodyPost_ret (v := .tuple #[.agg #[.int .i64 4, .int .i64 (bN (decide (a < b))), .float .f64 0, .float .f64 0], .int .i64 0]) (by simp [results, Try.results46, go_sem]) rfl (leaves_b rfl rfl ?_)
    (repeat (first | with_reducible exact Below.refl _ _ | with_reducible refine bl_alloc ?_ _ | with_reducible refine bl_drewN ?_ _ | with_reducible refine bl_drew ?_ | with_reducible refine bl_setCell ?_ (by first | exact Nat.le_refl _ | (dsimp only; omega) | (simp <;> omega)) _ | with_reducible refine bl_trans ?_ (by with_reducible assumption)))
  by_cases h7 : op = 7
  · subst h7
    go_enter Try.func46, Try.ntmps46
    go_wp2_with ((go_at_call 74; refine (boolVal_any _ _).mono ?_; rintro e w' ⟨rfl, rfl⟩))
    refine bodyPost_ret (v := .tuple #[.agg #[.int .i64 4, .int .i64 (bN (a == b)), .float .f64 0, .float .f64 0], .int .i64 0]) (by simp [results, Try.results46, go_sem]) rfl (leaves_b rfl rfl ?_)
    (repeat (first | with_reducible exact Below.refl _ _ | with_reducible refine bl_alloc ?_ _ | with_reducible refine bl_drewN ?_ _ | with_reducible refine bl_drew ?_ | with_reducible refine bl_setCell ?_ (by first | exact Nat.le_refl _ | (dsimp only; omega) | (simp <;> omega)) _ | with_reducible refine bl_trans ?_ (by with_reducible assumption)))
  have g1 : (op == 1) = false := beq_eq_false_iff_ne.2 h1
  have g2 : (op == 2) = false := beq_eq_false_iff_ne.2 h2
  have g3 : (op == 3) = false := beq_eq_false_iff_ne.2 h3
  have g6 : (op == 6) = false := beq_eq_false_iff_ne.2 h6
  have g7 : (op == 7) = false := beq_eq_false_iff_ne.2 h7
  by_cases h4 : op = 4
  · subst h4
    by_cases hb : b = 0
    · subst hb
      go_enter Try.func46, Try.ntmps46
      go_wp2_with (go_at_call 73; refine (share_zero _ _ _).mono ?_; rintro e w' ⟨rfl, rfl⟩)
      refine bodyPost_ret (v := .tuple #[.agg #[.int .i64 0, .int .i64 0, .float .f64 0, .float .f64 0], .int .i64 2]) (by simp [results, Try.results46, go_sem]) rfl (leaves_z rfl rfl ?_)
      (repeat (first | with_reducible exact Below.refl _ _ | with_reducible refine bl_alloc ?_ _ | with_reducible refine bl_drewN ?_ _ | with_reducible refine bl_drew ?_ | with_reducible refine bl_setCell ?_ (by first | exact Nat.le_refl _ | (dsimp only; omega) | (simp <;> omega)) _ | with_reducible refine bl_trans ?_ (by with_reducible assumption)))
    · have E : Hid (intOut 4 a b = (iV (wrap64 (a.tdiv b)), 0)) := by simp [Hid, intOut, hb]
      go_enter Try.func46, Try.ntmps46
      go_wp2_with (go_at_call 73; refine (share_div _ _ _ hb).mono ?_; rintro e w' ⟨rfl, rfl⟩)
      refine bodyPost_ret (v := .tuple #[.agg #[.int .i64 1, .int .i64 (wrap64 (a.tdiv b)), .float .f64 0, .float .f64 0], .int .i64 0]) (by simp [results, Try.results46, go_sem]) rfl (leaves_i E.out rfl ?_)
      (repeat (first | with_reducible exact Below.refl _ _ | with_reducible refine bl_alloc ?_ _ | with_reducible refine bl_drewN ?_ _ | with_reducible refine bl_drew ?_ | with_reducible refine bl_setCell ?_ (by first | exact Nat.le_refl _ | (dsimp only; omega) | (simp <;> omega)) _ | with_reducible refine bl_trans ?_ (by with_reducible assumption)))
  by_cases h5 : op = 5
  · subst h5
    by_cases hb : b = 0
    · subst hb
      go_enter Try.func46, Try.ntmps46
      go_wp2_with (go_at_call 73; refine (share_zero _ _ _).mono ?_; rintro e w' ⟨rfl, rfl⟩)
      refine bodyPost_ret (v := .tuple #[.agg #[.int .i64 0, .int .i64 0, .float .f64 0, .float .f64 0], .int .i64 2]) (by simp [results, Try.results46, go_sem]) rfl (leaves_z rfl rfl ?_)
      (repeat (first | with_reducible exact Below.refl _ _ | with_reducible refine bl_alloc ?_ _ | with_reducible refine bl_drewN ?_ _ | with_reducible refine bl_drew ?_ | with_reducible refine bl_setCell ?_ (by first | exact Nat.le_refl _ | (dsimp only; omega) | (simp <;> omega)) _ | with_reducible refine bl_trans ?_ (by with_reducible assumption)))
    · have E : Hid (intOut 5 a b = (iV (a.tmod b), 0)) := by simp [Hid, intOut, hb]
      go_enter Try.func46, Try.ntmps46
      go_wp2_with (go_at_call 73; refine (share_mod _ _ _ hb).mono ?_; rintro e w' ⟨rfl, rfl⟩)
      refine bodyPost_ret (v := .tuple #[.agg #[.int .i64 1, .int .i64 (a.tmod b), .float .f64 0, .float .f64 0], .int .i64 0]) (by simp [results, Try.results46, go_sem]) rfl (leaves_i E.out rfl ?_)
      (repeat (first | with_reducible exact Below.refl _ _ | with_reducible refine bl_alloc ?_ _ | with_reducible refine bl_drewN ?_ _ | with_reducible refine bl_drew ?_ | with_reducible refine bl_setCell ?_ (by first | exact Nat.le_refl _ | (dsimp only; omega) | (simp <;> omega)) _ | with_reducible refine bl_trans ?_ (by with_reducible assumption)))
  have g4 : (op == 4) = false := beq_eq_false_iff_ne.2 h4
  have g5 : (op == 5) = false := beq_eq_false_iff_ne.2 h5
  have E : Hid (intOut op a b = (zV, 1)) := by simp [Hid, intOut, h1, h2, h3, h4, h5, h6, h7]
  go_enter Try.func46, Try.ntmps46
  go_wp2_with fail
  refine bodyPost_ret (v := .tuple #[.agg #[.int .i64 0, .int .i64 0, .float .f64 0, .float .f64 0], .int .i64 1]) (by simp [results, Try.results46, go_sem]) rfl (leaves_z E.out rfl ?_)
  (repeat (first | with_reducible exact Below.refl _ _ | with_reducible refine bl_alloc ?_ _ | with_reducible refine bl_drewN ?_ _ | with_reducible refine bl_drew ?_ | with_reducible refine bl_setCell ?_ (by first | exact Nat.le_refl _ | (dsimp only; omega) | (simp <;> omega)) _ | with_reducible refine bl_trans ?_ (by with_reducible assumption)))
end Go.Proofs.Ytijgkpkakkjkgaa
