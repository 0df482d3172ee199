import Derived.Test.YtkbgklnkagpchaaEc
import Derived.ChangeKeysEq
namespace Go.Proofs.Ytkbgklnkagpchaa
open Go.RowKit

/-- 32 words, as cells. -/
def wordsOf (ws : List (BitVec 64)) : Array Value := (ws.map fun b => Value.int .u64 b.toNat).toArray

theorem words_cell {ws : List (BitVec 64)} {d : Nat} (h : d < ws.length) : (wordsOf ws)[d]? = some (.int .u64 ((ws.getD d 0).toNat : Int)) := by
  simp [wordsOf, h]
theorem words_set (ws : List (BitVec 64)) (d : Nat) (x : BitVec 64) : (wordsOf ws).setIfInBounds d (.int .u64 (x.toNat : Int)) = wordsOf (ws.set d x) := by
  simp [wordsOf, List.map_set]
theorem words_zero : wordsOf (List.replicate 32 0) = #[.int .u64 0, .int .u64 0, .int .u64 0, .int .u64 0, .int .u64 0, .int .u64 0, .int .u64 0, .int .u64 0, .int .u64 0, .int .u64 0, .int .u64 0, .int .u64 0, .int .u64 0, .int .u64 0, .int .u64 0, .int .u64 0, .int .u64 0, .int .u64 0, .int .u64 0, .int .u64 0, .int .u64 0, .int .u64 0, .int .u64 0, .int .u64 0, .int .u64 0, .int .u64 0, .int .u64 0, .int .u64 0, .int .u64 0, .int .u64 0, .int .u64 0, .int .u64 0] := by rfl

theorem words_all (xs : List (BitVec 64)) (hx : xs.length = 32) : ((List.range 32).all fun i => xs.getD i 0 == (List.replicate 32 (0 : BitVec 64)).getD i 0) = decide (xs = List.replicate 32 0) := by
  rw [Bool.eq_iff_iff, List.all_eq_true, decide_eq_true_eq]
  constructor
  · intro h
    apply List.ext_getElem (by simp [hx])
    intro i h1 h2
    have := h i (by simp; omega)
    rw [rep_getD, beq_iff_eq] at this
    simp only [List.getElem_replicate]
    rw [← this]
    simp [h1]
  · intro h i hi
    rw [h]; simp

end Go.Proofs.Ytkbgklnkagpchaa
