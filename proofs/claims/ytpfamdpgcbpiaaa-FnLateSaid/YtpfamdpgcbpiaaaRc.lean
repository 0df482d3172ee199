import Derived.Test.YtpfamdpgcbpiaaaRb
namespace Go.Proofs.Ytpfamdpgcbpiaaa
open Go.RowKit
set_option linter.unusedVariables false
set_option linter.unusedSimpArgs false


theorem stB_f {k f : Int} {O N : List V4} (h : (decide (0 ≤ f) && decide (f ≤ 1000000000000)) = false) : false = stB k f O N := by simp only [stB, h]; rfl
theorem stB_o {k f : Int} {O N : List V4} (h : ¬ O.length ≤ 200) : false = stB k f O N := by simp [stB, h]
theorem stB_n {k f : Int} {O N : List V4} (h : ¬ N.length ≤ 200) : false = stB k f O N := by simp [stB, h]
theorem stB_t {k f : Int} {O N : List V4} (h0 : (decide (0 ≤ f) && decide (f ≤ 1000000000000)) = true) (h1 : O.length ≤ 200) (h2 : N.length ≤ 200) : stB k f O N = (O ++ N).all (vofB k) := by simp only [stB, h0, h1, h2, decide_true, Bool.true_and]

/-- right values of a kind, no more than there may be. -/
def vlB (k : Int) (L : List V4) : Bool := decide (L.length ≤ 200) && L.all (vofB k)
theorem stB_eq (k f : Int) (O N : List V4) : stB k f O N = (decide (0 ≤ f) && decide (f ≤ 1000000000000) && vlB k O && vlB k N) := by
  simp only [stB, vlB, List.all_append]
  cases decide (0 ≤ f) <;> cases decide (f ≤ 1000000000000) <;> cases decide (O.length ≤ 200) <;> cases decide (N.length ≤ 200) <;> simp
theorem all_upto {p : V4 → Bool} {L : List V4} (h : ∀ j a, j < L.length → L[j]? = some a → p a = true) : L.all p = true := by
  rw [List.all_eq_true]
  intro x hx
  obtain ⟨j, hj, rfl⟩ := List.getElem_of_mem hx
  exact h j _ hj (by simp [hj])
theorem all_bad {p : V4 → Bool} {L : List V4} {j : Nat} {a : V4} (h : L[j]? = some a) (hp : p a = false) : L.all p = false := by
  rw [List.all_eq_false]
  exact ⟨a, List.mem_of_getElem? h, by rw [hp]; simp⟩

end Go.Proofs.Ytpfamdpgcbpiaaa
