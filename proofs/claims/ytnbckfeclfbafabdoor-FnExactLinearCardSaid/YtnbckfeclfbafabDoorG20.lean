import Derived.Test.YtnbckfeclfbafabDoorG19
namespace Go.Proofs.YtnbckfeclfbafabDoor
open Go.RowKit
set_option linter.unusedVariables false
set_option linter.unusedSimpArgs false

theorem cStep_none {L : List (Int × Int)} {n : Nat} {O : List Int} (h : cStep L n O = none) : (nb (rdy (eF L) n (stands O)) == 0) = true := by
  rw [nb_is_zero, List.all_eq_true]
  intro x hx
  unfold cStep at h
  rw [List.find?_eq_none] at h
  by_cases hn : x < n
  · have := h x (by simpa using hn)
    simpa using this
  · simp [rdy, hn]
theorem cStep_least {L : List (Int × Int)} {n q : Nat} {O : List Int} (hn : n ≤ 16) (h : cStep L n O = some q) : Least (rdy (eF L) n (stands O)) q ∧ (nb (rdy (eF L) n (stands O)) == 0) = false := by
  unfold cStep at h
  rw [List.find?_range_eq_some] at h
  obtain ⟨h1, h2, h3⟩ := h
  have h2 : q < n := by simpa using h2
  refine ⟨⟨by omega, h1, fun i hi => by simpa using h3 i hi⟩, ?_⟩
  rw [nb_is_zero, List.all_eq_false]
  exact ⟨q, by simp; omega, by simp [h1]⟩

theorem cSeq_len {L : List (Int × Int)} {n : Nat} : ∀ (k : Nat) {O : List Int}, cSeq L n k = some O → O.length = k
  | 0, O, h => by simp [cSeq] at h; subst h; rfl
  | k + 1, O, h => by
    simp only [cSeq, Option.bind_eq_some_iff, Option.map_eq_some_iff] at h
    obtain ⟨P, h1, q, _, rfl⟩ := h
    simp [cSeq_len k h1]
theorem canB_len (n : Int) (L : List (Int × Int)) : ((canB n L).getD []).length ≤ 1048576 := by
  cases hg : gOk n L
  · simp [canB, hg]
  · obtain ⟨m, rfl, hm, _⟩ := gOk_open hg
    cases h : canB m L with
    | none => simp
    | some O =>
      simp only [canB, hg, if_true, Int.toNat_natCast] at h
      have := cSeq_len m h
      simp; omega

end Go.Proofs.YtnbckfeclfbafabDoor
