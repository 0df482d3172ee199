import Derived.Test.YtnbckfeclfbafabDoorG18
namespace Go.Proofs.YtnbckfeclfbafabDoor
open Go.RowKit
set_option linter.unusedVariables false
set_option linter.unusedSimpArgs false

/-- what Canon answers. -/
def CanS (w : World) (r : Option (List Int)) (e : Ending) (w' : World) : Prop :=
  ∃ s c, e = .returned (.tuple #[.slice s (r.getD []).length c, .bool r.isSome]) ∧ VRow w' w.heap.size (.slice s (r.getD []).length c) (r.getD []) ∧ Below w.heap.size w w'
theorem CanS.none {w w' : World} (hb : Below w.heap.size w w') : CanS w none (.returned (.tuple #[.slice none 0 0, .bool false])) w' :=
  ⟨Option.none, 0, rfl, World.ownsRow_nil _ _ _ _, hb⟩

theorem stands_set (O : List Int) (q i : Nat) : (if i = q then true else stands O i) = stands (O ++ [(q : Int)]) i := by
  unfold stands
  by_cases e : i = q
  · subst e; simp
  · rw [if_neg e, Bool.eq_iff_iff]
    simp only [decide_eq_true_eq, List.mem_append, List.mem_singleton]
    constructor
    · exact Or.inl
    · rintro (h | h)
      · exact h
      · omega

end Go.Proofs.YtnbckfeclfbafabDoor
