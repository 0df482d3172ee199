import Derived.Test.YtcllkmdlheggkaaEx
namespace Go.Proofs.Ytcllkmdlheggkaa
open Go.RowKit
set_option linter.unusedVariables false
set_option linter.unusedSimpArgs false

/-- what is given back: the lists, the code. -/
def giveB (G F : List Int) (a g : Int) : List Int × List Int × Int :=
  if okE G F = true then (if l2B G F a g = true then (G.set a.toNat (ng g), F ++ [a], 0) else (G, F, 2)) else (G, F, 1)

/-- what a call that gives a thing back leaves. -/
def Gives (O : List Int × List Int × Int) (w : World) (e : Ending) (w' : World) : Prop :=
  ∃ s c t d, e = .returned (.tuple #[.agg #[.slice s O.1.length c, .slice t O.2.1.length d], .int .i64 O.2.2]) ∧ VRow w' w.heap.size (.slice s O.1.length c) O.1 ∧ VRow w' w.heap.size (.slice t O.2.1.length d) O.2.1 ∧ Apart (.slice s O.1.length c) (.slice t O.2.1.length d) ∧ Below w.heap.size w w'

theorem l2B_parts {G F : List Int} {a g : Int} (h : l2B G F a g = true) (hk : okE G F = true) : ∃ q : Nat, a = (q : Int) ∧ q < G.length ∧ 0 ≤ g ∧ g ≤ 1000000 := by
  simp only [l2B, decide_eq_true_eq] at h
  simp only [okE, decide_eq_true_eq] at hk
  obtain ⟨h1, h2, h3, h4⟩ := h
  refine ⟨a.toNat, by omega, by omega, ?_⟩
  rw [← h3]
  exact hk.2.1 _ (getD_mem (by omega))

theorem okE_len {G F : List Int} (h : okE G F = true) : G.length ≤ 2000 ∧ F.length ≤ 2000 := by
  have h' := h
  rw [okE_eq] at h
  simp only [Bool.and_eq_true, decide_eq_true_eq] at h
  have := free_len h.2
  omega

theorem apartS {g f n m c d : Nat} (h : ¬ g = f) : Apart (.slice (some ⟨g, 0, none⟩) n c) (.slice (some ⟨f, 0, none⟩) m d) := by
  intro k h1 h2
  simp [Value.ownBlock] at h1 h2
  omega

end Go.Proofs.Ytcllkmdlheggkaa
