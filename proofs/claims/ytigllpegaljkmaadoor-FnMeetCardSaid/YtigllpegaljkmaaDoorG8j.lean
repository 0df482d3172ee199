import Derived.Test.YtigllpegaljkmaaDoorG6j
import Derived.Laws.CopyOwn
namespace Go.Proofs.YtigllpegaljkmaaDoor
open Go.RowKit
set_option linter.unusedVariables false
set_option linter.unusedSimpArgs false

/-- ways that pass over k as well. -/
def stp (R : Nat → Nat → Bool) (k i j : Nat) : Bool := R i j || (R i k && R k j)
def clo (R : Nat → Nat → Bool) : Nat → Nat → Nat → Bool
  | 0 => R
  | k + 1 => stp (clo R k) k
theorem stp_self (R : Nat → Nat → Bool) (k j : Nat) : stp R k k j = R k j := by
  unfold stp; cases R k j <;> simp
/-- the first m rows have been looked at. -/
def half (Q : Nat → Nat → Bool) (k m : Nat) (i : Nat) : Nat → Bool := if i < m then stp Q k i else Q i
theorem half_at (Q : Nat → Nat → Bool) (k m : Nat) : half Q k m m = Q m := by simp [half]
theorem half_k (Q : Nat → Nat → Bool) (k m : Nat) : half Q k m k = Q k := by
  unfold half; split
  · exact funext (stp_self Q k)
  · rfl
theorem half_hit (Q : Nat → Nat → Bool) (k m : Nat) (h : Q m k = true) : lk (fun j => if j = m then (fun i => Q m i || Q k i) else half Q k m j) = lk (half Q k (m + 1)) := by
  refine lk_congr fun i j _ _ => ?_
  unfold half
  by_cases e : i = m
  · subst e
    simp [stp, h]
  · simp only [e, if_false]
    by_cases e2 : i < m
    · simp [e2, show i < m + 1 by omega]
    · simp [e2, show ¬ i < m + 1 by omega]
theorem half_miss (Q : Nat → Nat → Bool) (k m : Nat) (h : Q m k = false) : lk (half Q k m) = lk (half Q k (m + 1)) := by
  refine lk_congr fun i j _ _ => ?_
  unfold half
  by_cases e : i = m
  · subst e
    simp [stp, h]
  · by_cases e2 : i < m
    · simp [e2, show i < m + 1 by omega]
    · simp [e2, show ¬ i < m + 1 by omega]
theorem half_zero (Q : Nat → Nat → Bool) (k : Nat) : half Q k 0 = Q := by funext i; simp [half]
theorem half_all (Q : Nat → Nat → Bool) (k : Nat) : lk (half Q k 16) = lk (stp Q k) := lk_congr fun i j hi _ => by simp [half, hi]

end Go.Proofs.YtigllpegaljkmaaDoor
