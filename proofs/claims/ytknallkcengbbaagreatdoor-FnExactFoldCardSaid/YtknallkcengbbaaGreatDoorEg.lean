import Derived.Test.YtknallkcengbbaaGreatDoorEc
import Derived.ChangeKeysEq
namespace Go.Proofs.YtknallkcengbbaaGreatDoor
open Go.RowKit

/-- 32 words, as cells. -/
def wordsOf (ws : List (BitVec 64)) : Array Value := (ws.map fun b => Value.int .u64 b.toNat).toArray

theorem words_cell {ws : List (BitVec 64)} {d : Nat} (h : d < ws.length) : (wordsOf ws)[d]? = some (.int .u64 ((ws.getD d 0).toNat : Int)) := by
  simp [wordsOf, h]
theorem words_set (ws : List (BitVec 64)) (d : Nat) (x : BitVec 64) : (wordsOf ws).setIfInBounds d (.int .u64 (x.toNat : Int)) = wordsOf (ws.set d x) := by
  simp [wordsOf, List.map_set]
theorem words_zero : wordsOf (List.replicate 32 0) = #[.int .u64 0, .int .u64 0, .int .u64 0, .int .u64 0, .int .u64 0, .int .u64 0, .int .u64 0, .int .u64 0, .int .u64 0, .int .u64 0, .int .u64 0, .int .u64 0, .int .u64 0, .int .u64 0, .int .u64 0, .int .u64 0, .int .u64 0, .int .u64 0, .int .u64 0, .int .u64 0, .int .u64 0, .int .u64 0, .int .u64 0, .int .u64 0, .int .u64 0, .int .u64 0, .int .u64 0, .int .u64 0, .int .u64 0, .int .u64 0, .int .u64 0, .int .u64 0] := by rfl

theorem Tryz.infoW : (Tryz.prog.info? 152).map (fun i => (i.zero, i.size, i.bytes)) = some (some (.int .u64 0), 1, 8) := by kernel_rfl
theorem Tryz.cellsW : Tryz.prog.cellsOf 152 = 1 := by kernel_rfl
theorem words_items (d : Nat) (xs ys : List (BitVec 64)) (hx : xs.length = 32) (hy : ys.length = 32) (w : World) : ∀ (l : List Nat), (∀ i ∈ l, i < 32) →
    (Op.eqItems (d + 1) 152 1 (wordsOf xs) (wordsOf ys) l).run Tryz.prog w = .ok (l.all fun i => xs.getD i 0 == ys.getD i 0) w := by
  intro l
  induction l with
  | nil => intro _; simp [Op.eqItems]
  | cons i l ih =>
    intro hl
    have hi : i < 32 := hl i (by simp)
    have px : (Go.part 152 (wordsOf xs) (i * 1)).run Tryz.prog w = .ok (.int .u64 ((xs.getD i 0).toNat : Int)) w := by
      simp [Go.part, isAgg, run_underlying Tryz.underlying152, wordsOf, show i < xs.length by omega]
    have py : (Go.part 152 (wordsOf ys) (i * 1)).run Tryz.prog w = .ok (.int .u64 ((ys.getD i 0).toNat : Int)) w := by
      simp [Go.part, isAgg, run_underlying Tryz.underlying152, wordsOf, show i < ys.length by omega]
    have pe : (Op.equalIn (d + 1) 152 (.int .u64 ((xs.getD i 0).toNat : Int)) (.int .u64 ((ys.getD i 0).toNat : Int))).run Tryz.prog w = .ok (xs.getD i 0 == ys.getD i 0) w := by
      rw [run_equalIn_int w d 152 .u64 .u64 _ _ Tryz.underlying152]
      refine congrArg (fun b => Result.ok b w) ?_
      rw [Bool.eq_iff_iff, beq_iff_eq, beq_iff_eq, ← BitVec.toNat_inj]
      omega
    simp only [Op.eqItems, Sem.run_bind, px, py, pe, Result.andThen_ok, List.all_cons]
    cases hb : (xs.getD i 0 == ys.getD i 0)
    · simp
    · simpa using ih fun j hj => hl j (by simp [hj])

theorem words_all (xs : List (BitVec 64)) (hx : xs.length = 32) : ((List.range 32).all fun i => xs.getD i 0 == (List.replicate 32 (0 : BitVec 64)).getD i 0) = decide (xs = List.replicate 32 0) := by
  rw [Bool.eq_iff_iff, List.all_eq_true, decide_eq_true_eq]
  constructor
  · intro h
    apply List.ext_getElem (by simp [hx])
    intro i h1 h2
    have := h i (by simp; omega)
    rw [rep_getD, beq_iff_eq] at this
    simp only [List.getElem_replicate]
    rw [← this]
    simp [h1]
  · intro h i hi
    rw [h]; simp

end Go.Proofs.YtknallkcengbbaaGreatDoor
