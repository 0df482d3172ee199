import Derived.Test.YtknallkcengbbaaGreatDoorWc
namespace Go.Proofs.YtknallkcengbbaaGreatDoor
open Go.RowKit

theorem neq_self (x : Nat) : (FloatKind.f64.format.order x x != some Ordering.eq) = nanB x := by
  have := order_self x
  rw [bne, show FloatKind.f64.format = Ieee.double from rfl, this, Bool.not_not]

theorem sameB_nan {x y : Nat} (h : nanB x = true ∨ nanB y = true) : (nanB x && nanB y) = sameB x y := by
  unfold sameB
  rcases h with h | h <;> simp [h]

theorem sameB_zero {x y : Nat} (hx : (x == 0 || x == 9223372036854775808) = true) (hy : (y == 0 || y == 9223372036854775808) = true) : (plusB x == plusB y) = sameB x y := by
  simp only [Bool.or_eq_true, beq_iff_eq] at hx hy
  rcases hx with rfl | rfl <;> rcases hy with rfl | rfl <;> decide +kernel

theorem sameB_other {x y : Nat} (lx : x < 18446744073709551616) (ly : y < 18446744073709551616) (nx : nanB x = false) (ny : nanB y = false) (h : ((x == 0 || x == 9223372036854775808) && (y == 0 || y == 9223372036854775808)) = false) :
    (FloatKind.f64.format.order x y == some Ordering.eq) = sameB x y := by
  have := order_eq x y lx ly nx ny
  rw [show FloatKind.f64.format = Ieee.double from rfl, this]
  unfold sameB
  rw [nx, ny]
  have e : (x % 9223372036854775808 == 0 && y % 9223372036854775808 == 0) = false := by
    rw [← h, Bool.eq_iff_iff]; simp; omega
  rw [e]; simp

theorem one_div {x : Nat} (h : (x == 0 || x == 9223372036854775808) = true) : ∃ r, floatBits .quo .f64 4607182418800017408 x = some r ∧ (FloatKind.f64.format.order r 0 == some Ordering.gt) = plusB x := by
  simp only [Bool.or_eq_true, beq_iff_eq] at h
  rcases h with rfl | rfl
  · exact ⟨_, div_one_pos, inf_pos⟩
  · exact ⟨_, div_one_neg, inf_neg⟩

theorem eq_zero' {x : Nat} (lx : x < 18446744073709551616) : (FloatKind.f64.format.order x 0 == some Ordering.eq) = (x == 0 || x == 9223372036854775808) := order_zero x lx

def eqB (k i : Int) (x y : Nat) (l j : Int) (u v : Nat) : Bool := k == l && i == j && sameB x u && sameB y v

end Go.Proofs.YtknallkcengbbaaGreatDoor
