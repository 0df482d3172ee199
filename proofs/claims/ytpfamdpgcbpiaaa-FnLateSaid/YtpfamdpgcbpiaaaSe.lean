import Derived.Test.YtpfamdpgcbpiaaaSd
namespace Go.Proofs.Ytpfamdpgcbpiaaa
open Go.RowKit
set_option linter.unusedVariables false
set_option linter.unusedSimpArgs false

/-- First behind the old events. -/
def fb (f : Int) (n : Nat) : Int := if 0 ≤ f ∧ f ≤ 1000000000000 - (n : Int) then f + (n : Int) else 0
theorem ret_int' {a b : Int} (h : a = b) : Ending.returned (.int .i64 a) = .returned (.int .i64 b) := by rw [h]
theorem blk3u (w : World) (c d e : Array Value) (t u v : TypeId) : Blk (((w.alloc (.cells c t)).alloc (.cells d u)).alloc (.cells e v)) w.heap.size c t ∧ Blk (((w.alloc (.cells c t)).alloc (.cells d u)).alloc (.cells e v)) (w.heap.size + 1) d u ∧ Blk (((w.alloc (.cells c t)).alloc (.cells d u)).alloc (.cells e v)) (w.heap.size + 1 + 1) e v :=
  ⟨((blk2 w c d t u).1).alloc _, ((blk2 w c d t u).2).alloc _, Blk.new' _ _ _ (by simp)⟩

end Go.Proofs.Ytpfamdpgcbpiaaa
