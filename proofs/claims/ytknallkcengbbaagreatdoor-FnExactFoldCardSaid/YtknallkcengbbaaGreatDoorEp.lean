import Derived.Test.YtknallkcengbbaaGreatDoorEo
import Derived.Deep.QuietTactic
import Derived.BigQuiet
namespace Go.Proofs.YtknallkcengbbaaGreatDoor
open Go.RowKit
set_option linter.unusedVariables false

/-- a list of things, as it can be read: cells two by two. -/
def EList (w : World) (v : Value) (L : List (Int × Int)) : Prop :=
  (∃ s c, v = .slice s 0 c ∧ L = []) ∨ ∃ g c, v = .slice (some ⟨g, 0, none⟩) L.length c ∧ g < w.heap.size ∧ ∀ j, j < L.length → w.cell? ⟨g, j * 2, none⟩ = some (.int .i64 (L[j]?.getD (0, 0)).1) ∧ w.cell? ⟨g, j * 2 + 1, none⟩ = some (.int .i64 (L[j]?.getD (0, 0)).2)
theorem EList.later {w w' : World} {v : Value} {L : List (Int × Int)} (h : EList w v L) (hb : Below w.heap.size w w') : EList w' v L := by
  rcases h with h0 | ⟨g, c, rfl, h1, h2⟩
  · exact Or.inl h0
  · exact Or.inr ⟨g, c, rfl, Nat.lt_of_lt_of_le h1 hb.size, fun j hj => ⟨(hb.cell (p := ⟨g, j * 2, none⟩) h1).trans (h2 j hj).1, (hb.cell (p := ⟨g, j * 2 + 1, none⟩) h1).trans (h2 j hj).2⟩⟩
theorem EList.get {w : World} {v : Value} {L : List (Int × Int)} (h : EList w v L) {k : Nat} (hk : k < L.length) :
    ∃ g c, v = .slice (some ⟨g, 0, none⟩) L.length c ∧ ∀ w', Below w.heap.size w w' → w'.cell? ⟨g, k * 2, none⟩ = some (.int .i64 (L[k]?.getD (0, 0)).1) ∧ w'.cell? ⟨g, k * 2 + 1, none⟩ = some (.int .i64 (L[k]?.getD (0, 0)).2) := by
  rcases h with ⟨s, c, _, rfl⟩ | ⟨g, c, rfl, h1, h2⟩
  · simp at hk
  · exact ⟨g, c, rfl, fun w' hb => ⟨(hb.cell (p := ⟨g, k * 2, none⟩) h1).trans (h2 k hk).1, (hb.cell (p := ⟨g, k * 2 + 1, none⟩) h1).trans (h2 k hk).2⟩⟩
theorem EList.shape {w : World} {v : Value} {L : List (Int × Int)} (h : EList w v L) : ∃ s c, v = .slice s L.length c := by
  rcases h with ⟨s, c, rfl, rfl⟩ | ⟨g, c, rfl, _⟩
  · exact ⟨s, c, rfl⟩
  · exact ⟨_, c, rfl⟩

end Go.Proofs.YtknallkcengbbaaGreatDoor
