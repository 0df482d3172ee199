import Derived.Test.YtofpkbnocbmgkaaWc
namespace Go.Proofs.Ytofpkbnocbmgkaa
open Go.RowKit

theorem neq_self (x : Nat) : (FloatKind.f64.format.order x x != some Ordering.eq) = nanB x := by
  have := order_self x
  rw [bne, show FloatKind.f64.format = Ieee.double from rfl, this, Bool.not_not]

theorem sameB_nan {x y : Nat} (h : nanB x = true ∨ nanB y = true) : (nanB x && nanB y) = sameB x y := by
  unfold sameB
  rcases h with h | h <;> simp [h]

theorem sameB_zero {x y : Nat} (hx : (x == 0 || x == 9223372036854775808) = true) (hy : (y == 0 || y == 9223372036854775808) = true) : (plusB x == plusB y) = sameB x y := by
  simp only [Bool.or_eq_true, beq_iff_eq] at hx hy
  rcases hx with rfl | rfl <;> rcases hy with rfl | rfl <;> decide +kernel

theorem sameB_other {x y : Nat} (lx : x < 18446744073709551616) (ly : y < 18446744073709551616) (nx : nanB x = false) (ny : nanB y = false) (h : ((x == 0 || x == 9223372036854775808) && (y == 0 || y == 9223372036854775808)) = false) :
    (FloatKind.f64.format.order x y == some Ordering.eq) = sameB x y := by
  have := order_eq x y lx ly nx ny
  rw [show FloatKind.f64.format = Ieee.double from rfl, this]
  unfold sameB
  rw [nx, ny]
  have e : (x % 9223372036854775808 == 0 && y % 9223372036854775808 == 0) = false := by
    rw [← h, Bool.eq_iff_iff]; simp; omega
  rw [e]; simp

set_option maxHeartbeats 400000 in
theorem lsame_nan (x y : Nat) (w : World) (h : nanB x = true ∨ nanB y = true) :
    Calls Try.prog 46 #[.float .f64 x, .float .f64 y] w fun e w' => e = .returned (.bool (sameB x y)) ∧ w' = w := by
  have e := sameB_nan h
  have E : Hid ((nanB x && nanB y) = sameB x y) := e
  clear e
  have n1 := neq_self x
  have n2 := neq_self y
  cases hx : nanB x <;> cases hy : nanB y
  · simp [hx, hy] at h
  all_goals
    rw [hx] at n1 E
    rw [hy] at n2 E
    clear h hx hy
    go_enter Try.func46, Try.ntmps46
    go_wp2
    go_ret
    exact ⟨ret_bool E.out, rfl⟩

theorem one_div {x : Nat} (h : (x == 0 || x == 9223372036854775808) = true) : ∃ r, floatBits .quo .f64 4607182418800017408 x = some r ∧ (FloatKind.f64.format.order r 0 == some Ordering.gt) = plusB x := by
  simp only [Bool.or_eq_true, beq_iff_eq] at h
  rcases h with rfl | rfl
  · exact ⟨_, div_one_pos, inf_pos⟩
  · exact ⟨_, div_one_neg, inf_neg⟩

theorem eq_zero' {x : Nat} (lx : x < 18446744073709551616) : (FloatKind.f64.format.order x 0 == some Ordering.eq) = (x == 0 || x == 9223372036854775808) := order_zero x lx

set_option maxHeartbeats 400000 in
theorem lsame_zero (x y : Nat) (w : World) (lx : x < 18446744073709551616) (ly : y < 18446744073709551616) (nx : nanB x = false) (ny : nanB y = false) (hx : (x == 0 || x == 9223372036854775808) = true) (hy : (y == 0 || y == 9223372036854775808) = true) :
    Calls Try.prog 46 #[.float .f64 x, .float .f64 y] w fun e w' => e = .returned (.bool (sameB x y)) ∧ w' = w := by
  have E : Hid ((plusB x == plusB y) = sameB x y) := sameB_zero hx hy
  have n1 := neq_self x
  have n2 := neq_self y
  rw [nx] at n1
  rw [ny] at n2
  have z1 := eq_zero' lx
  have z2 := eq_zero' ly
  rw [hx] at z1
  rw [hy] at z2
  obtain ⟨r, hr, gr⟩ := one_div hx
  obtain ⟨s, hs, gs⟩ := one_div hy
  have d1 := fun t w => run_float_arith (P := Try.prog) w .quo t .f64 4607182418800017408 x r hr
  have d2 := fun t w => run_float_arith (P := Try.prog) w .quo t .f64 4607182418800017408 y s hs
  clear nx ny lx ly hx hy hr hs
  go_enter Try.func46, Try.ntmps46
  go_wp2
  go_ret
  exact ⟨ret_bool E.out, rfl⟩

set_option maxHeartbeats 400000 in
theorem lsame_other (x y : Nat) (w : World) (lx : x < 18446744073709551616) (ly : y < 18446744073709551616) (nx : nanB x = false) (ny : nanB y = false) (h : ((x == 0 || x == 9223372036854775808) && (y == 0 || y == 9223372036854775808)) = false) :
    Calls Try.prog 46 #[.float .f64 x, .float .f64 y] w fun e w' => e = .returned (.bool (sameB x y)) ∧ w' = w := by
  have E : Hid ((FloatKind.f64.format.order x y == some Ordering.eq) = sameB x y) := sameB_other lx ly nx ny h
  have n1 := neq_self x
  have n2 := neq_self y
  rw [nx] at n1
  rw [ny] at n2
  have z1 := eq_zero' lx
  have z2 := eq_zero' ly
  cases hx : (x == 0 || x == 9223372036854775808)
  · rw [hx] at z1
    clear nx ny lx ly hx h z2
    go_enter Try.func46, Try.ntmps46
    go_wp2
    go_ret
    exact ⟨ret_bool E.out, rfl⟩
  · have hy : (y == 0 || y == 9223372036854775808) = false := by rw [hx] at h; simpa using h
    rw [hx] at z1
    rw [hy] at z2
    clear nx ny lx ly hx hy h
    go_enter Try.func46, Try.ntmps46
    go_wp2
    go_ret
    exact ⟨ret_bool E.out, rfl⟩

theorem lsame_any (x y : Nat) (w : World) (lx : x < 18446744073709551616) (ly : y < 18446744073709551616) :
    Calls Try.prog 46 #[.float .f64 x, .float .f64 y] w fun e w' => e = .returned (.bool (sameB x y)) ∧ w' = w := by
  cases nx : nanB x
  · cases ny : nanB y
    · cases h : ((x == 0 || x == 9223372036854775808) && (y == 0 || y == 9223372036854775808))
      · exact lsame_other x y w lx ly nx ny h
      · rw [Bool.and_eq_true] at h
        exact lsame_zero x y w lx ly nx ny h.1 h.2
    · exact lsame_nan x y w (Or.inr ny)
  · exact lsame_nan x y w (Or.inl nx)

def eqB (k i : Int) (x y : Nat) (l j : Int) (u v : Nat) : Bool := k == l && i == j && sameB x u && sameB y v

set_option maxHeartbeats 400000 in
theorem eqVal_any (k i : Int) (x y : Nat) (l j : Int) (u v : Nat) (w : World) (lx : x < 18446744073709551616) (ly : y < 18446744073709551616) (lu : u < 18446744073709551616) (lv : v < 18446744073709551616) :
    Calls Try.prog 13 #[.agg #[.int .i64 k, .int .i64 i, .float .f64 x, .float .f64 y], .agg #[.int .i64 l, .int .i64 j, .float .f64 u, .float .f64 v]] w fun e w' => e = .returned (.bool (eqB k i x y l j u v)) ∧ Below w.heap.size w w' := by
  cases h1 : ((k == l) : Bool)
  · have g1 : (k != l) = true := by simp [bne, h1]
    have E : Hid (false = eqB k i x y l j u v) := by simp [Hid, eqB, h1]
    go_enter Try.func13, Try.ntmps13
    go_wp2
    go_ret
    refine ⟨ret_bool E.out, ?_⟩
    (repeat (first | with_reducible exact Below.refl _ _ | with_reducible refine bl_alloc ?_ _ | with_reducible refine bl_drewN ?_ _ | with_reducible refine bl_drew ?_ | with_reducible refine bl_setCell ?_ (by first | exact Nat.le_refl _ | (dsimp only; omega) | (simp <;> omega)) _ | with_reducible refine bl_trans ?_ (by with_reducible assumption)))
  · have g1 : (k != l) = false := by simp [bne, h1]
    cases h2 : ((i == j) : Bool)
    · have g2 : (i != j) = true := by simp [bne, h2]
      have E : Hid (false = eqB k i x y l j u v) := by simp [Hid, eqB, h2]
      go_enter Try.func13, Try.ntmps13
      go_wp2
      go_ret
      refine ⟨ret_bool E.out, ?_⟩
      (repeat (first | with_reducible exact Below.refl _ _ | with_reducible refine bl_alloc ?_ _ | with_reducible refine bl_drewN ?_ _ | with_reducible refine bl_drew ?_ | with_reducible refine bl_setCell ?_ (by first | exact Nat.le_refl _ | (dsimp only; omega) | (simp <;> omega)) _ | with_reducible refine bl_trans ?_ (by with_reducible assumption)))
    · have g2 : (i != j) = false := by simp [bne, h2]
      have E : Hid ((sameB x u && sameB y v) = eqB k i x y l j u v) := by simp [Hid, eqB, h1, h2]
      clear h1 h2
      cases h3 : sameB x u
      · rw [h3] at E
        go_enter Try.func13, Try.ntmps13
        go_wp2_with (go_at_call 46; refine (lsame_any _ _ _ (by assumption) (by assumption)).mono ?_; rintro e w' ⟨rfl, rfl⟩)
        go_ret
        refine ⟨ret_bool E.out, ?_⟩
        (repeat (first | with_reducible exact Below.refl _ _ | with_reducible refine bl_alloc ?_ _ | with_reducible refine bl_drewN ?_ _ | with_reducible refine bl_drew ?_ | with_reducible refine bl_setCell ?_ (by first | exact Nat.le_refl _ | (dsimp only; omega) | (simp <;> omega)) _ | with_reducible refine bl_trans ?_ (by with_reducible assumption)))
      · rw [h3] at E
        cases h4 : sameB y v
        all_goals
          rw [h4] at E
          go_enter Try.func13, Try.ntmps13
          go_wp2_with (go_at_call 46; refine (lsame_any _ _ _ (by assumption) (by assumption)).mono ?_; rintro e w' ⟨rfl, rfl⟩)
          go_ret
          refine ⟨ret_bool E.out, ?_⟩
          (repeat (first | with_reducible exact Below.refl _ _ | with_reducible refine bl_alloc ?_ _ | with_reducible refine bl_drewN ?_ _ | with_reducible refine bl_drew ?_ | with_reducible refine bl_setCell ?_ (by first | exact Nat.le_refl _ | (dsimp only; omega) | (simp <;> omega)) _ | with_reducible refine bl_trans ?_ (by with_reducible assumption)))
end Go.Proofs.Ytofpkbnocbmgkaa
