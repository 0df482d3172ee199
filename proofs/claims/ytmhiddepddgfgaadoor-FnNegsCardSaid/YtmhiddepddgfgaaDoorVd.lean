import Derived.Test.YtmhiddepddgfgaaDoorVb
import Derived.Test.YtmhiddepddgfgaaDoorVc
import Derived.Test.YtmhiddepddgfgaaDoorWf
namespace Go.Proofs.YtmhiddepddgfgaaDoor
open Ieee
set_option linter.unusedVariables false
set_option linter.unusedSimpArgs false

theorem readBig : double.read 4787326403894837248 = .number false 4503599627370496 (-12) := by decide +kernel
theorem readLow : double.read 14010698440749613056 = .number true 4503599627370496 (-12) := by decide +kernel

theorem shl_ge (m e : Nat) (h : 4503599627370496 ≤ m) : 4503599627370496 ≤ m <<< e := by
  rw [Nat.shiftLeft_eq]
  exact Nat.le_trans h (Nat.le_mul_of_pos_right _ (Nat.two_pow_pos e))

/-- a real below the limit and above its opposite has a low rung. -/
theorem low_rung (x : Nat) (nx : nanB x = false) (h1 : (double.order x 4787326403894837248 == some .gt || double.order x 4787326403894837248 == some .eq) = false)
    (h2 : (double.order x 14010698440749613056 == some .lt || double.order x 14010698440749613056 == some .eq) = false) : x % 9223372036854775808 < 4787326403894837248 := by
  by_cases hc : x % 9223372036854775808 < 4787326403894837248
  · exact hc
  exfalso
  unfold Format.order at h1 h2
  rw [readBig] at h1
  rw [readLow] at h2
  rcases form_of x nx with ⟨hx, hd⟩ | ⟨m, k, hm, hk, hx, hk2, hd⟩
  · rw [hd] at h1 h2
    generalize (x / 9223372036854775808 % 2 == 1) = s at h1 h2
    cases s <;> simp [Datum.order] at h1 h2
  · have k1 : 1062 ≤ k := by omega
    have hm2 : 4503599627370496 ≤ m := by omega
    rw [hd] at h1 h2
    generalize (x / 9223372036854775808 % 2 == 1) = s at h1 h2
    have hmin : min (-1074 + (k : Int)) (-12) = -12 := by omega
    have hs := shl_ge m (-1074 + (k : Int) - -12).toNat hm2
    cases s
    · simp only [Datum.order, hmin] at h1
      have : (-12 - -12 : Int).toNat = 0 := by decide
      rw [this] at h1
      simp only [signed, Nat.shiftLeft_zero] at h1
      generalize m <<< (-1074 + (k : Int) - -12).toNat = q at hs h1
      have hcmp : compare (q : Int) (4503599627370496 : Int) = .gt ∨ compare (q : Int) (4503599627370496 : Int) = .eq := by
        rcases Nat.lt_or_ge 4503599627370496 q with h | h
        · left; rw [Int.compare_eq_gt]; omega
        · right; rw [Int.compare_eq_eq]; omega
      rcases hcmp with h | h <;> simp [h] at h1
    · simp only [Datum.order, hmin] at h2
      have : (-12 - -12 : Int).toNat = 0 := by decide
      rw [this] at h2
      simp only [signed, Nat.shiftLeft_zero] at h2
      generalize m <<< (-1074 + (k : Int) - -12).toNat = q at hs h2
      have hcmp : compare (-(q : Int)) (-(4503599627370496 : Int)) = .lt ∨ compare (-(q : Int)) (-(4503599627370496 : Int)) = .eq := by
        rcases Nat.lt_or_ge 4503599627370496 q with h | h
        · left; rw [Int.compare_eq_lt]; omega
        · right; rw [Int.compare_eq_eq]; omega
      rcases hcmp with h | h <;> simp [h] at h2
end Go.Proofs.YtmhiddepddgfgaaDoor
