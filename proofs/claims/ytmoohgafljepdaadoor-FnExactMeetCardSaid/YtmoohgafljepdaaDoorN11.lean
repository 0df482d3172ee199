import Derived.Test.YtmoohgafljepdaaDoorN10
namespace Go.Proofs.YtmoohgafljepdaaDoor
open Go.RowKit
set_option linter.unusedVariables false
set_option linter.unusedSimpArgs false

/-- what PoolMoves, PoolRun and Meet answer. -/
def PlS (w : World) (r : Option (List (Int × Int))) (e : Ending) (w' : World) : Prop :=
  ∃ v, e = .returned (.tuple #[v, .bool r.isSome]) ∧ MRow w' w.heap.size v (r.getD []) ∧ Below w.heap.size w w'
theorem PlS.none {w w' : World} (hb : Below w.heap.size w w') : PlS w none (.returned (.tuple #[.slice none 0 0, .bool false])) w' :=
  ⟨_, rfl, MRow.nil _ _, hb⟩
theorem wk_l1 (wk : Int) : (decide (1 ≤ wk) && decide (wk ≤ 8)) = wkOk wk := by
  unfold wkOk; rw [Bool.eq_iff_iff]; simp
theorem mem_at {L : List (Int × Int)} {m : Int × Int} {j : Nat} (h : j < L.length) : decide (m ∈ L.take (j + 1)) = (decide (m ∈ L.take j) || decide (L[j]?.getD (0, 0) = m)) := by
  rw [takeE_succ L j h, Bool.eq_iff_iff]
  simp only [List.mem_append, List.mem_singleton, decide_eq_true_eq, Bool.or_eq_true]
  constructor
  · rintro (g | g)
    · exact Or.inl g
    · exact Or.inr g.symm
  · rintro (g | g)
    · exact Or.inl g
    · exact Or.inr g.symm

end Go.Proofs.YtmoohgafljepdaaDoor
