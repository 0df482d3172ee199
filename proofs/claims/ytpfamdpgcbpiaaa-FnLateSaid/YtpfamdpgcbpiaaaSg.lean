import Derived.Test.YtpfamdpgcbpiaaaSf
namespace Go.Proofs.Ytpfamdpgcbpiaaa
open Go.RowKit
set_option linter.unusedVariables false
set_option linter.unusedSimpArgs false

/-- a new stream without new events is handed back. -/
def OwnT (w : World) (f : Int) (N : List V4) (e : Ending) (w' : World) : Prop :=
  ∃ g c, e = .returned (.agg #[.int .i64 f, .slice (some ⟨g, 0, none⟩) N.length c, .slice none 0 0]) ∧ OV w' w.heap.size (.slice (some ⟨g, 0, none⟩) N.length c) N ∧ (∀ v ∈ N, okV v) ∧ Below w.heap.size w w'

theorem keptUnder {w : World} {n : Nat} (hn : n < w.heap.size) (u0 u1 u2 : Value) : Kept (n + 1) w (((w.setCell ⟨n, 0, none⟩ u0).setCell ⟨n, 1, none⟩ u1).setCell ⟨n, 2, none⟩ u2) :=
  ((Kept.set _ (by simp) _).trans (Kept.set _ (by simp <;> omega) _)).trans (Kept.set _ (by simp <;> omega) _)

theorem setThree_far {w : World} {n b o : Nat} (u0 u1 u2 : Value) (h : ¬ n = b) : (((w.setCell ⟨n, 0, none⟩ u0).setCell ⟨n, 1, none⟩ u1).setCell ⟨n, 2, none⟩ u2).cell? ⟨b, o, none⟩ = w.cell? ⟨b, o, none⟩ := by
  rw [World.cell?_setCell_far _ _ _ _ (by simpa using h), World.cell?_setCell_far _ _ _ _ (by simpa using h), World.cell?_setCell_far _ _ _ _ (by simpa using h)]

/-- a new stream is handed back. -/
def OwnS (w : World) (f : Int) (O N : List V4) (e : Ending) (w' : World) : Prop :=
  ∃ a c b d, e = .returned (.agg #[.int .i64 f, .slice (some ⟨a, 0, none⟩) O.length c, .slice (some ⟨b, 0, none⟩) N.length d]) ∧ OV w' w.heap.size (.slice (some ⟨a, 0, none⟩) O.length c) O ∧ OV w' w.heap.size (.slice (some ⟨b, 0, none⟩) N.length d) N ∧ ¬ a = b ∧ (∀ v ∈ O, okV v) ∧ (∀ v ∈ N, okV v) ∧ Below w.heap.size w w'

end Go.Proofs.Ytpfamdpgcbpiaaa
