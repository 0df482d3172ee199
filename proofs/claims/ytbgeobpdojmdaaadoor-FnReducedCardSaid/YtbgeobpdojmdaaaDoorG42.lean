import Derived.Test.YtbgeobpdojmdaaaDoorG41
namespace Go.Proofs.YtbgeobpdojmdaaaDoor
open Go.RowKit
set_option linter.unusedVariables false
set_option linter.unusedSimpArgs false

theorem Blk.edge {w : World} {n : Nat} {a b : Value} {t : TypeId} (h : Blk w n #[a, b] t) : w.cell? ⟨n, 0, none⟩ = some a ∧ w.cell? ⟨n, 1, none⟩ = some b := ⟨h.cell 0, h.cell 1⟩
/-- the numbers between, of the first k. -/
def btwK (R : Nat → Nat → Bool) (a b k : Nat) : Bool := (List.range k).any fun x => R a x && R x b
theorem btwK_succ (R : Nat → Nat → Bool) (a b k : Nat) : btwK R a b (k + 1) = (btwK R a b k || (R a k && R k b)) := by
  unfold btwK; rw [List.range_succ, List.any_append]; simp

end Go.Proofs.YtbgeobpdojmdaaaDoor
