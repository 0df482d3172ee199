import Derived.Test.YteoligpjhddkdaaWd
namespace Go.Proofs.Yteoligpjhddkdaa
open Go.RowKit

theorem sameB_bits {x y : Nat} (nx : nanB x = false) (ny : nanB y = false) : ((x : Int) == (y : Int)) = sameB x y := by
  unfold sameB
  rw [nx, ny, Bool.eq_iff_iff]
  simp
  omega

theorem neq_zero' {x : Nat} (lx : x < 18446744073709551616) : (FloatKind.f64.format.order x 0 != some Ordering.eq) = !(x == 0 || x == 9223372036854775808) := by
  rw [bne, eq_zero' lx]

theorem sameB_apart {x y : Nat} (lx : x < 18446744073709551616) (ly : y < 18446744073709551616) (nx : nanB x = false) (ny : nanB y = false) (h : (FloatKind.f64.format.order x y == some Ordering.eq) = false) : false = sameB x y := by
  have := order_eq x y lx ly nx ny
  rw [show FloatKind.f64.format = Ieee.double from rfl, this] at h
  unfold sameB
  rw [nx, ny]
  simp only [Bool.or_eq_false_iff] at h
  rw [h.1]; rfl

theorem zero_both {x y : Nat} (lx : x < 18446744073709551616) (ly : y < 18446744073709551616) (nx : nanB x = false) (ny : nanB y = false) (h : (FloatKind.f64.format.order x y == some Ordering.eq) = true) :
    (y == 0 || y == 9223372036854775808) = (x == 0 || x == 9223372036854775808) := by
  have := order_eq x y lx ly nx ny
  rw [show FloatKind.f64.format = Ieee.double from rfl, this] at h
  rw [Bool.eq_iff_iff]
  simp at h ⊢
  omega

end Go.Proofs.Yteoligpjhddkdaa
