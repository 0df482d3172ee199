import Derived.Test.YteoligpjhddkdaaLb
import Derived.Test.YteoligpjhddkdaaLe
namespace Go.Proofs.Yteoligpjhddkdaa
open Go.RowKit Go.Maps Go.WideMaps
set_option linter.unusedVariables false
set_option linter.unusedSimpArgs false

/-! the two ways of looking at a list of cells agree. -/
theorem outL_lt (L : List C5) : ∀ n, ∀ a ∈ outL L n, 0 ≤ a.1 ∧ a.1 < (n : Int)
  | 0, a, h => by simp [outL] at h
  | n + 1, a, h => by
    rw [outL, List.mem_append] at h
    rcases h with h | h
    · have := outL_lt L n a h; omega
    · have := (List.mem_filter.1 h).2
      simp at this
      omega
theorem outL_perm (L : List C5) : ∀ n : Nat, (outL L n).Perm (L.filter (fun a => decide (0 ≤ a.1) && decide (a.1 < (n : Int))))
  | 0 => by
    have : L.filter (fun a => decide (0 ≤ a.1) && decide (a.1 < ((0 : Nat) : Int))) = [] := by
      rw [List.filter_eq_nil_iff]
      intro a _ h
      simp at h
      omega
    rw [this]
    exact List.Perm.refl _
  | n + 1 => by
    have h := outL_perm L n
    rw [outL]
    have e := (List.filter_append_perm (fun a : C5 => decide (a.1 < (n : Int))) (L.filter (fun a => decide (0 ≤ a.1) && decide (a.1 < ((n + 1 : Nat) : Int))))).symm
    rw [List.filter_filter, List.filter_filter] at e
    refine List.Perm.trans ?_ e.symm
    refine List.Perm.append ?_ ?_
    · refine h.trans (List.Perm.of_eq (List.filter_congr fun a _ => ?_))
      rw [Bool.eq_iff_iff]; simp; omega
    · refine List.Perm.of_eq (List.filter_congr fun a _ => ?_)
      rw [Bool.eq_iff_iff]; simp; omega
theorem outL_sorted (L : List C5) : ∀ n : Nat, (outL L n).Pairwise (fun a b => a.1 ≤ b.1)
  | 0 => by simp [outL]
  | n + 1 => by
    rw [outL, List.pairwise_append]
    refine ⟨outL_sorted L n, ?_, fun a ha b hb => ?_⟩
    · rw [List.pairwise_iff_getElem]
      intro i j hi hj _
      have h1 := (List.mem_filter.1 (List.getElem_mem hi)).2
      have h2 := (List.mem_filter.1 (List.getElem_mem hj)).2
      simp only [beq_iff_eq] at h1 h2
      omega
    · have h1 := outL_lt L n a ha
      have h2 := (List.mem_filter.1 hb).2
      simp at h2
      omega
theorem one_at (m : Int) : ∀ L : List C5, (L.map (·.1)).Nodup → (L.filter (fun a => a.1 == m)).length ≤ 1
  | [], _ => by simp
  | a :: L, h => by
    simp only [List.map_cons, List.nodup_cons] at h
    have ih := one_at m L h.2
    rw [List.filter_cons]
    split
    · rename_i hm
      have : L.filter (fun a => a.1 == m) = [] := by
        rw [List.filter_eq_nil_iff]
        intro b hb hbm
        simp at hm hbm
        exact h.1 (List.mem_map.2 ⟨b, hb, by rw [hbm, hm]⟩)
      rw [this]
      simp
    · exact ih
theorem outL_len_nodup (L : List C5) (h : (L.map (·.1)).Nodup) : ∀ n, (outL L n).length ≤ n
  | 0 => by simp [outL]
  | n + 1 => by
    have h1 := outL_len_nodup L h n
    have h2 := one_at (n : Int) L h
    rw [outL, List.length_append]
    omega
theorem cellsB_iff (A : List (ByteArray × Int)) (L : List C5) : cellsB A L = true ↔ (∀ a ∈ L, fitB A a.1 a.2 = true) ∧ (L.map (·.1)).Nodup := by
  simp only [cellsB, List.all_eq_true, List.mem_range]
  constructor
  · intro h
    refine ⟨fun a ha => ?_, ?_⟩
    · obtain ⟨j, hj, rfl⟩ := List.getElem_of_mem ha
      have := h j hj
      rw [celB_eq (List.getElem?_eq_getElem hj)] at this
      simp only [Bool.and_eq_true] at this
      exact this.1
    · unfold List.Nodup
      rw [List.pairwise_iff_getElem]
      intro i j hi hj hij he
      have hj' : j < L.length := by simpa using hj
      have := h j hj'
      rw [celB_eq (List.getElem?_eq_getElem hj')] at this
      simp only [Bool.and_eq_true, Bool.not_eq_true', decide_eq_false_iff_not] at this
      refine this.2 (List.mem_map.2 ⟨L[i]'(by omega), ?_, by simpa using he⟩)
      rw [List.mem_take_iff_getElem]
      exact ⟨i, by omega, rfl⟩
  · rintro ⟨h1, h2⟩ j hj
    rw [celB_eq (List.getElem?_eq_getElem hj), h1 _ (List.getElem_mem hj)]
    simp only [Bool.true_and, Bool.not_eq_true', decide_eq_false_iff_not]
    intro hm
    obtain ⟨a, ha, he⟩ := List.mem_map.1 hm
    obtain ⟨i, hi, rfl⟩ := List.mem_take_iff_getElem.1 ha
    unfold List.Nodup at h2
    rw [List.pairwise_iff_getElem] at h2
    exact h2 i j (by simp; omega) (by simpa using hj) (by omega) (by simpa using he)
theorem sortB_iff (A : List (ByteArray × Int)) (L : List C5) : sortB A L = true ↔ (∀ a ∈ L, fitB A a.1 a.2 = true) ∧ (L.map (·.1)).Nodup := by
  have hp := outL_perm L A.length
  constructor
  · intro h
    simp only [sortB, Bool.and_eq_true, decide_eq_true_eq, List.all_eq_true, List.mem_range] at h
    obtain ⟨_, h2, h3⟩ := h
    have h4 : ∀ a ∈ L, (decide (0 ≤ a.1) && decide (a.1 < (A.length : Int))) = true := by
      rw [← List.length_filter_eq_length_iff]
      rw [← hp.length_eq]
      exact h3
    have hpl : (outL L A.length).Perm L := by
      have e : L.filter (fun a => decide (0 ≤ a.1) && decide (a.1 < (A.length : Int))) = L := List.filter_eq_self.2 h4
      rw [e] at hp
      exact hp
    have h5 : ∀ (j : Nat) (hj : j < (outL L A.length).length), fitB A (outL L A.length)[j].1 (outL L A.length)[j].2 = true ∧ (0 < j → ∀ hk : j - 1 < (outL L A.length).length, ¬ (outL L A.length)[j - 1].1 = (outL L A.length)[j].1) := by
      intro j hj
      have := h2 j hj
      unfold sokB at this
      rw [List.getElem?_eq_getElem hj] at this
      simp only [Option.elim, Bool.and_eq_true, Bool.not_eq_true'] at this
      refine ⟨this.1, fun hz hk he => ?_⟩
      have h6 := this.2
      rw [List.getElem?_eq_getElem hk] at h6
      simp [hz, he] at h6
    refine ⟨fun a ha => ?_, ?_⟩
    · obtain ⟨j, hj, rfl⟩ := List.getElem_of_mem (hpl.mem_iff.2 ha)
      exact (h5 j hj).1
    · rw [← (hpl.map (·.1)).nodup_iff]
      unfold List.Nodup
      rw [List.pairwise_iff_getElem]
      intro i j hi hj hij he
      have hj' : j < (outL L A.length).length := by simpa using hj
      have hs := List.pairwise_iff_getElem.1 (outL_sorted L A.length)
      have e1 : (outL L A.length)[i].1 ≤ (outL L A.length)[j - 1].1 := by
        by_cases e : i = j - 1
        · subst e; exact Int.le_refl _
        · exact hs i (j - 1) (by omega) (by omega) (by omega)
      have e2 := hs (j - 1) j (by omega) hj' (by omega)
      have e3 : (outL L A.length)[i].1 = (outL L A.length)[j].1 := by simpa using he
      exact (h5 j hj').2 (by omega) (by omega) (by omega)
  · rintro ⟨h1, h2⟩
    have h4 : ∀ a ∈ L, (decide (0 ≤ a.1) && decide (a.1 < (A.length : Int))) = true := by
      intro a ha
      have := h1 a ha
      simp only [fitB, cmpB, Bool.and_eq_true] at this
      simp only [Bool.and_eq_true]
      exact this.1
    have hpl : (outL L A.length).Perm L := by
      have e : L.filter (fun a => decide (0 ≤ a.1) && decide (a.1 < (A.length : Int))) = L := List.filter_eq_self.2 h4
      rw [e] at hp
      exact hp
    have h5 := outL_len_nodup L h2 A.length
    have h6 := hpl.length_eq
    have h7 : ((outL L A.length).map (·.1)).Nodup := ((hpl.map (·.1)).nodup_iff).2 h2
    simp only [sortB, Bool.and_eq_true, decide_eq_true_eq, List.all_eq_true, List.mem_range]
    refine ⟨by omega, fun j hj => ?_, h6⟩
    unfold sokB
    rw [List.getElem?_eq_getElem hj]
    simp only [Option.elim, Bool.and_eq_true, Bool.not_eq_true']
    refine ⟨h1 _ (hpl.mem_iff.1 (List.getElem_mem hj)), ?_⟩
    by_cases hz : 0 < j
    · have hk : j - 1 < (outL L A.length).length := by omega
      rw [List.getElem?_eq_getElem hk]
      unfold List.Nodup at h7
      have h8 := List.pairwise_iff_getElem.1 h7 (j - 1) j (by simpa using hk) (by simpa using hj) (by omega)
      simp at h8
      simp [hz, h8]
    · simp [hz]
theorem sort_cells (A : List (ByteArray × Int)) (L : List C5) : sortB A L = cellsB A L := by
  rw [Bool.eq_iff_iff, sortB_iff, cellsB_iff]
end Go.Proofs.Yteoligpjhddkdaa
