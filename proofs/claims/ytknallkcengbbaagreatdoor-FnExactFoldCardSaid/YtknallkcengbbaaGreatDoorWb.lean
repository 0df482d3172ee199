import Derived.Test.YtknallkcengbbaaGreatDoorWa
namespace Go.Proofs.YtknallkcengbbaaGreatDoor
open Go.RowKit

def okB (k i : Int) (x y : Nat) : Bool :=
  if k = 1 then plusB x && plusB y else if k = 2 then i == 0 && plusB y else if k = 3 then i == 0
  else if k = 4 then (i == 0 || i == 1) && plusB x && plusB y else false

set_option maxHeartbeats 400000 in
theorem implOk_any (k i : Int) (x y : Nat) (w : World) :
    Calls Tryz.prog 88 #[.agg #[.int .i64 k, .int .i64 i, .float .f64 x, .float .f64 y]] w fun e w' => e = .returned (.bool (okB k i x y)) ∧ w' = w.alloc (.cells #[.int .i64 k, .int .i64 i, .float .f64 x, .float .f64 y] 76) := by
  by_cases h1 : k = 1
  · subst h1
    cases hp : plusB x
    all_goals
      go_enter Tryz.func88, Tryz.ntmps88
      go_wp2_with (go_at_call 114; refine (plusZero_any _ _).mono ?_; rintro e w' ⟨rfl, rfl⟩)
      go_ret
      exact ⟨ret_bool (by simp [okB, hp]), rfl⟩
  · by_cases h2 : k = 2
    · subst h2
      cases hp : ((i == 0) : Bool)
      all_goals
        go_enter Tryz.func88, Tryz.ntmps88
        go_wp2_with (go_at_call 114; refine (plusZero_any _ _).mono ?_; rintro e w' ⟨rfl, rfl⟩)
        go_ret
        exact ⟨ret_bool (by simp [okB, hp]), rfl⟩
    · by_cases h3 : k = 3
      · subst h3
        go_enter Tryz.func88, Tryz.ntmps88
        go_wp2_with (go_at_call 114; refine (plusZero_any _ _).mono ?_; rintro e w' ⟨rfl, rfl⟩)
        go_ret
        exact ⟨ret_bool (by simp [okB]), rfl⟩
      · by_cases h4 : k = 4
        · subst h4
          cases ha : ((i == 0) : Bool) <;> cases hb : ((i == 1) : Bool) <;> cases hp : plusB x
          all_goals
            go_enter Tryz.func88, Tryz.ntmps88
            go_wp2_with (go_at_call 114; refine (plusZero_any _ _).mono ?_; rintro e w' ⟨rfl, rfl⟩)
            go_ret
            exact ⟨ret_bool (by simp [okB, hp, ha, hb]), rfl⟩
        · have g1 : (k == 1) = false := beq_eq_false_iff_ne.2 h1
          have g2 : (k == 2) = false := beq_eq_false_iff_ne.2 h2
          have g3 : (k == 3) = false := beq_eq_false_iff_ne.2 h3
          have g4 : (k == 4) = false := beq_eq_false_iff_ne.2 h4
          go_enter Tryz.func88, Tryz.ntmps88
          go_wp2_with (go_at_call 114; refine (plusZero_any _ _).mono ?_; rintro e w' ⟨rfl, rfl⟩)
          go_ret
          exact ⟨ret_bool (by simp [okB, h1, h2, h3, h4]), rfl⟩

set_option maxHeartbeats 400000 in
theorem specOk_any (k i : Int) (x y : Nat) (w : World) (hx : x < 18446744073709551616) (hy : y < 18446744073709551616) :
    Calls Tryz.prog 69 #[.agg #[.int .i64 k, .int .i64 i, .float .f64 x, .float .f64 y]] w fun e w' => e = .returned (.bool (okB k i x y)) ∧ w' = w.alloc (.cells #[.int .i64 k, .int .i64 i, .float .f64 x, .float .f64 y] 76) := by
  by_cases h1 : k = 1
  · subst h1
    cases hp : plusB x
    all_goals
      go_enter Tryz.func69, Tryz.ntmps69
      go_wp2_with (go_at_call 104; refine (l1Plus_any _ _ (by assumption)).mono ?_; rintro e w' ⟨rfl, rfl⟩)
      go_ret
      exact ⟨ret_bool (by simp [okB, hp]), rfl⟩
  · by_cases h2 : k = 2
    · subst h2
      cases hp : ((i == 0) : Bool)
      all_goals
        go_enter Tryz.func69, Tryz.ntmps69
        go_wp2_with (go_at_call 104; refine (l1Plus_any _ _ (by assumption)).mono ?_; rintro e w' ⟨rfl, rfl⟩)
        go_ret
        exact ⟨ret_bool (by simp [okB, hp]), rfl⟩
    · by_cases h3 : k = 3
      · subst h3
        go_enter Tryz.func69, Tryz.ntmps69
        go_wp2_with (go_at_call 104; refine (l1Plus_any _ _ (by assumption)).mono ?_; rintro e w' ⟨rfl, rfl⟩)
        go_ret
        exact ⟨ret_bool (by simp [okB]), rfl⟩
      · by_cases h4 : k = 4
        · subst h4
          cases ha : ((i == 0) : Bool) <;> cases hb : ((i == 1) : Bool) <;> cases hp : plusB x
          all_goals
            go_enter Tryz.func69, Tryz.ntmps69
            go_wp2_with (go_at_call 104; refine (l1Plus_any _ _ (by assumption)).mono ?_; rintro e w' ⟨rfl, rfl⟩)
            go_ret
            exact ⟨ret_bool (by simp [okB, hp, ha, hb]), rfl⟩
        · have g1 : (k == 1) = false := beq_eq_false_iff_ne.2 h1
          have g2 : (k == 2) = false := beq_eq_false_iff_ne.2 h2
          have g3 : (k == 3) = false := beq_eq_false_iff_ne.2 h3
          have g4 : (k == 4) = false := beq_eq_false_iff_ne.2 h4
          go_enter Tryz.func69, Tryz.ntmps69
          go_wp2_with (go_at_call 104; refine (l1Plus_any _ _ (by assumption)).mono ?_; rintro e w' ⟨rfl, rfl⟩)
          go_ret
          exact ⟨ret_bool (by simp [okB, h1, h2, h3, h4]), rfl⟩
end Go.Proofs.YtknallkcengbbaaGreatDoor
