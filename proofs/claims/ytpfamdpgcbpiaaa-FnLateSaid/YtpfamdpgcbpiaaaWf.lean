import Derived.Test.YtpfamdpgcbpiaaaWd
namespace Go.Proofs.Ytpfamdpgcbpiaaa
open Go.RowKit

theorem sameB_bits {x y : Nat} (nx : nanB x = false) (ny : nanB y = false) : ((x : Int) == (y : Int)) = sameB x y := by
  unfold sameB
  rw [nx, ny, Bool.eq_iff_iff]
  simp
  omega

theorem neq_zero' {x : Nat} (lx : x < 18446744073709551616) : (FloatKind.f64.format.order x 0 != some Ordering.eq) = !(x == 0 || x == 9223372036854775808) := by
  rw [bne, eq_zero' lx]

theorem sameB_apart {x y : Nat} (lx : x < 18446744073709551616) (ly : y < 18446744073709551616) (nx : nanB x = false) (ny : nanB y = false) (h : (FloatKind.f64.format.order x y == some Ordering.eq) = false) : false = sameB x y := by
  have := order_eq x y lx ly nx ny
  rw [show FloatKind.f64.format = Ieee.double from rfl, this] at h
  unfold sameB
  rw [nx, ny]
  simp only [Bool.or_eq_false_iff] at h
  rw [h.1]; rfl

theorem zero_both {x y : Nat} (lx : x < 18446744073709551616) (ly : y < 18446744073709551616) (nx : nanB x = false) (ny : nanB y = false) (h : (FloatKind.f64.format.order x y == some Ordering.eq) = true) :
    (y == 0 || y == 9223372036854775808) = (x == 0 || x == 9223372036854775808) := by
  have := order_eq x y lx ly nx ny
  rw [show FloatKind.f64.format = Ieee.double from rfl, this] at h
  rw [Bool.eq_iff_iff]
  simp at h ⊢
  omega

set_option maxHeartbeats 400000 in
theorem ssame_any (x y : Nat) (w : World) (lx : x < 18446744073709551616) (ly : y < 18446744073709551616) :
    Calls Try.prog 50 #[.float .f64 x, .float .f64 y] w fun e w' => e = .returned (.bool (sameB x y)) ∧ w' = w := by
  have n1 := neq_self x
  have n2 := neq_self y
  cases nx : nanB x <;> cases ny : nanB y
  · rw [nx] at n1
    rw [ny] at n2
    cases he : (FloatKind.f64.format.order x y == some Ordering.eq)
    · have E : Hid (false = sameB x y) := sameB_apart lx ly nx ny he
      clear nx ny lx ly
      go_enter Try.func50, Try.ntmps50
      go_wp2_with fail
      go_ret
      exact ⟨ret_bool E.out, rfl⟩
    · have hz := zero_both lx ly nx ny he
      have z1 := neq_zero' lx
      cases hx : (x == 0 || x == 9223372036854775808)
      · have E : Hid (true = sameB x y) := by
          rw [← he]; exact sameB_other lx ly nx ny (by rw [hx]; rfl)
        rw [hx] at z1
        clear nx ny hx hz
        go_enter Try.func50, Try.ntmps50
        go_wp2_with fail
        go_ret
        exact ⟨ret_bool E.out, rfl⟩
      · have E : Hid ((plusB x == plusB y) = sameB x y) := sameB_zero hx (by rw [hz]; exact hx)
        rw [hx] at z1
        clear nx ny hx hz
        go_enter Try.func50, Try.ntmps50
        go_wp2_with (go_at_call 60; refine (l1Plus_any _ _ (by assumption)).mono ?_; rintro e w' ⟨rfl, rfl⟩)
        go_ret
        exact ⟨ret_bool E.out, rfl⟩
  all_goals
    have E : Hid ((nanB x && nanB y) = sameB x y) := sameB_nan (by simp [nx, ny])
    rw [nx, ny] at E
    rw [nx] at n1
    rw [ny] at n2
    clear nx ny lx ly
    go_enter Try.func50, Try.ntmps50
    go_wp2_with fail
    go_ret
    exact ⟨ret_bool E.out, rfl⟩

set_option maxHeartbeats 400000 in
theorem specSame_any (k i : Int) (x y : Nat) (l j : Int) (u v : Nat) (w : World) (lx : x < 18446744073709551616) (ly : y < 18446744073709551616) (lu : u < 18446744073709551616) (lv : v < 18446744073709551616) :
    Calls Try.prog 33 #[.agg #[.int .i64 k, .int .i64 i, .float .f64 x, .float .f64 y], .agg #[.int .i64 l, .int .i64 j, .float .f64 u, .float .f64 v]] w fun e w' => e = .returned (.bool (eqB k i x y l j u v)) ∧ w' = (w.alloc (.cells #[.int .i64 k, .int .i64 i, .float .f64 x, .float .f64 y] 64)).alloc (.cells #[.int .i64 l, .int .i64 j, .float .f64 u, .float .f64 v] 64) := by
  cases h1 : ((k == l) : Bool)
  · have E : Hid (false = eqB k i x y l j u v) := by simp [Hid, eqB, h1]
    go_enter Try.func33, Try.ntmps33
    go_wp2_with fail
    go_ret
    exact ⟨ret_bool E.out, rfl⟩
  · cases h2 : ((i == j) : Bool)
    · have E : Hid (false = eqB k i x y l j u v) := by simp [Hid, eqB, h2]
      go_enter Try.func33, Try.ntmps33
      go_wp2_with fail
      go_ret
      exact ⟨ret_bool E.out, rfl⟩
    · cases h3 : sameB x u
      all_goals
        have E : Hid ((sameB x u && sameB y v) = eqB k i x y l j u v) := by simp [Hid, eqB, h1, h2]
        rw [h3] at E
        go_enter Try.func33, Try.ntmps33
        go_wp2_with (go_at_call 50; refine (ssame_any _ _ _ (by assumption) (by assumption)).mono ?_; rintro e w' ⟨rfl, rfl⟩)
        go_ret
        exact ⟨ret_bool E.out, rfl⟩

end Go.Proofs.Ytpfamdpgcbpiaaa
