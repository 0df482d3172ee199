import Derived.Test.YtigllpegaljkmaaDoorG10j
namespace Go.Proofs.YtigllpegaljkmaaDoor
open Go.RowKit
set_option linter.unusedVariables false
set_option linter.unusedSimpArgs false

theorem gOk_open {n : Int} {L : List (Int × Int)} (h : gOk n L = true) : ∃ m : Nat, n = (m : Int) ∧ m ≤ 16 ∧ L.length ≤ 200 ∧ Inn m L ∧ In16 L := by
  simp only [gOk, decide_eq_true_eq] at h
  obtain ⟨h0, h1, h2, h3⟩ := h
  refine ⟨n.toNat, by omega, by omega, h2, fun e he => ?_, fun e he => ?_⟩
  · have := h3 e he
    refine ⟨⟨this.1.1, by omega⟩, this.2.1, by omega⟩
  · have := h3 e he
    refine ⟨⟨this.1.1, by omega⟩, this.2.1, by omega⟩

theorem below_l1 (x n : Int) : (decide (0 ≤ x) && decide (x ≤ n - 1)) = decide (0 ≤ x ∧ x < n) := by
  rw [Bool.eq_iff_iff]; simp; omega

theorem Tryd.infoNb : (Tryd.prog.info? 47).map (fun i => (i.zero, i.size, i.bytes)) = some (some (.int .u16 0), 1, 2) := by kernel_rfl
theorem idx_lk (R : Nat → Nat → Bool) (i : Nat) (hi : i < 16) (w : World) : (Instr.index 49 (.agg (lk R)) (.int .i64 (i : Int))).run Tryd.prog w = .ok (.int .u16 (nb (R i))) w := by
  obtain ⟨i0, hi0, hz0, hz1, hz2⟩ := info_parts Tryd.infoNb
  have hz : (sizeOf 47).run Tryd.prog w = .ok 1 w := by simp [sizeOf, typeInfo, hi0, hz1]
  have px : (Go.part 47 (lk R) i).run Tryd.prog w = .ok (.int .u16 (nb (R i))) w := by
    simp [Go.part, isAgg, run_underlying Tryd.underlying47, lk_cell R hi]
  simp [Instr.index, asIntOf, run_underlying Tryd.underlying49, hz, px, show (i : Int) < 16 by omega, hi, show ¬ 16 ≤ i by omega]

/-- two new variables that hold links. -/
def twoW (w : World) (A B : Nat → Nat → Bool) : World := (((w.alloc (.cells (lk fun _ _ => false) 49)).alloc (.cells (lk fun _ _ => false) 49)).setRow w.heap.size (lk A)).setRow (w.heap.size + 1) (lk B)
theorem two_lk (w : World) (A B : Nat → Nat → Bool) : Blk (twoW w A B) w.heap.size (lk A) 49 ∧ Blk (twoW w A B) (w.heap.size + 1) (lk B) 49 ∧ Below w.heap.size w (twoW w A B) := by
  obtain ⟨h0, h1⟩ := blk2 w (lk fun _ _ => false) (lk fun _ _ => false) 49 49
  have a0 := setRow_heap _ _ _ (lk A) _ _ h0
  have a1 := (setRow_other _ w.heap.size _ (lk A) (by omega)).trans h1
  refine ⟨(setRow_other _ _ _ _ (by omega)).trans a0, setRow_heap _ _ _ _ _ _ a1, ?_⟩
  exact below_setRow (below_setRow (bl_alloc (bl_alloc (Below.refl _ _) _) _) (Nat.le_refl _) _) (by omega) _

end Go.Proofs.YtigllpegaljkmaaDoor
