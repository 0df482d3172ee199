import Derived.Test.YtbgeobpdojmdaaaDoorG66
namespace Go.Proofs.YtbgeobpdojmdaaaDoor
open Go.RowKit
set_option linter.unusedVariables false
set_option linter.unusedSimpArgs false

/-- one number more, as the k-th list goes. -/
theorem lSq_next {L : List (Int × Int)} {n k j : Nat} (hn : n ≤ 8) (hj : j < n) (hI : LI L n (lSq L n k j).1 (lSq L n k j).2) (hlen : (lSq L n k j).1.length = j) :
    ∃ x, x < n ∧ rdy (eF L) n (stands (lSq L n k j).1) x = true ∧ psum L n (n - j - 1) (stands (lSq L n k j).1) x ≤ (lSq L n k j).2 ∧ (lSq L n k j).2 < psum L n (n - j - 1) (stands (lSq L n k j).1) (x + 1) ∧
      lSq L n k (j + 1) = ((lSq L n k j).1 ++ [(x : Int)], (lSq L n k j).2 - psum L n (n - j - 1) (stands (lSq L n k j).1) x) ∧ LI L n (lSq L n k (j + 1)).1 (lSq L n k (j + 1)).2 ∧ (lSq L n k (j + 1)).1.length = j + 1 := by
  have hc := hI.2.1
  rw [hlen, show n - j = (n - j - 1) + 1 by omega, ← psum_all] at hc
  obtain ⟨x, h1, h2, h3, h4, h5⟩ := pk_some hc
  have hs : lSq L n k (j + 1) = ((lSq L n k j).1 ++ [(x : Int)], (lSq L n k j).2 - psum L n (n - j - 1) (stands (lSq L n k j).1) x) := by
    rw [lSq, h2]
  have hst := LI.step hn hI (by omega) h1 (by rw [hlen]; exact h3) (by rw [hlen]; exact h4) h5
  rw [hlen] at hst
  refine ⟨x, h1, h5, h3, h4, hs, ?_, ?_⟩
  · rw [hs]; exact hst
  · rw [hs]; simp [hlen]
theorem lSq_inv {L : List (Int × Int)} {n k : Nat} (hn : n ≤ 8) (h : k < cnt L n n (fun _ => false)) : ∀ j, j ≤ n → LI L n (lSq L n k j).1 (lSq L n k j).2 ∧ (lSq L n k j).1.length = j
  | 0, _ => ⟨LI.start h, rfl⟩
  | j + 1, hj => by
    obtain ⟨h1, h2⟩ := lSq_inv hn h j (by omega)
    obtain ⟨x, _, _, _, _, _, h3, h4⟩ := lSq_next hn (by omega) h1 h2
    exact ⟨h3, h4⟩
theorem stepOk_snoc {n : Nat} {L : List (Int × Int)} {O : List Int} (h16 : In16 L) (h : stepOk n L O O.length) {x : Nat} (hr : rdy (eF L) n (stands O) x = true) : stepOk n L (O ++ [(x : Int)]) (O.length + 1) := by
  intro i hi
  by_cases e : i = O.length
  · subst e
    have := (rdy_stands h16 O x).1 hr
    simp only [List.getElem?_append_right (Nat.le_refl _), Nat.sub_self, List.getElem?_cons_zero, Option.getD_some, List.take_left]
    exact ⟨⟨by omega, by omega⟩, this.2.1, fun y hy => this.2.2 y (by simpa using hy)⟩
  · have hi' : i < O.length := by omega
    have := h i hi'
    rw [List.getElem?_append_left hi', List.take_append_of_le_length (by omega)]
    exact this
theorem lSq_ok {L : List (Int × Int)} {n k : Nat} (hn : n ≤ 8) (h16 : In16 L) (h : k < cnt L n n (fun _ => false)) : ∀ j, j ≤ n → stepOk n L (lSq L n k j).1 j
  | 0, _ => fun i hi => by omega
  | j + 1, hj => by
    obtain ⟨h1, h2⟩ := lSq_inv hn h j (by omega)
    obtain ⟨x, _, hr, _, _, hs, _, _⟩ := lSq_next hn (by omega) h1 h2
    have ih := lSq_ok hn h16 h j (by omega)
    have := stepOk_snoc h16 (O := (lSq L n k j).1) (by rw [h2]; exact ih) hr
    rw [h2] at this
    rw [hs]; exact this
/-- the next list is behind this one. -/
theorem lSq_rise {L : List (Int × Int)} {n k : Nat} (hn : n ≤ 8) (h : k + 1 < cnt L n n (fun _ => false)) : ∀ j, j ≤ n →
    ((lSq L n k j).1 = (lSq L n (k + 1) j).1 ∧ (lSq L n (k + 1) j).2 = (lSq L n k j).2 + 1) ∨
    ∃ x, x < j ∧ (∀ y, y < x → (lSq L n k j).1[y]?.getD 0 = (lSq L n (k + 1) j).1[y]?.getD 0) ∧ (lSq L n k j).1[x]?.getD 0 < (lSq L n (k + 1) j).1[x]?.getD 0
  | 0, _ => Or.inl ⟨rfl, rfl⟩
  | j + 1, hj => by
    obtain ⟨a1, a2⟩ := lSq_inv (L := L) (k := k) hn (by omega) j (by omega)
    obtain ⟨b1, b2⟩ := lSq_inv (k := k + 1) hn h j (by omega)
    obtain ⟨x, x1, _, x3, x4, xs, _, _⟩ := lSq_next hn (by omega) a1 a2
    obtain ⟨z, z1, _, z3, z4, zs, _, _⟩ := lSq_next hn (by omega) b1 b2
    rcases lSq_rise hn h j (by omega) with ⟨e1, e2⟩ | ⟨q, q1, q2, q3⟩
    · rw [← e1] at z3 z4 zs
      rw [e2] at z3 z4 zs
      rw [xs, zs]
      by_cases hxz : x = z
      · subst hxz
        refine Or.inl ⟨rfl, ?_⟩
        simp only; omega
      · refine Or.inr ⟨j, by omega, fun y hy => ?_, ?_⟩
        · simp only
          rw [List.getElem?_append_left (by omega), List.getElem?_append_left (by omega)]
        · have hlt : x < z := by
            rcases Nat.lt_or_ge x z with g | g
            · exact g
            · have := psum_le_of L n (n - j - 1) (stands (lSq L n k j).1) (x := z + 1) (y := x) (by omega)
              omega
          simp only
          rw [List.getElem?_append_right (by omega), List.getElem?_append_right (by omega), a2]
          simp; omega
    · rw [xs, zs]
      refine Or.inr ⟨q, by omega, fun y hy => ?_, ?_⟩
      · simp only
        rw [List.getElem?_append_left (by omega), List.getElem?_append_left (by omega)]
        exact q2 y hy
      · simp only
        rw [List.getElem?_append_left (by omega), List.getElem?_append_left (by omega)]
        exact q3
theorem lSq_more {L : List (Int × Int)} {n k : Nat} (hn : n ≤ 8) (h : k + 1 < cnt L n n (fun _ => false)) :
    ∃ x, x < n ∧ (∀ y, y < x → (lSq L n k n).1[y]?.getD 0 = (lSq L n (k + 1) n).1[y]?.getD 0) ∧ (lSq L n k n).1[x]?.getD 0 < (lSq L n (k + 1) n).1[x]?.getD 0 := by
  rcases lSq_rise hn h n (Nat.le_refl _) with ⟨_, e2⟩ | g
  · obtain ⟨b1, b2⟩ := lSq_inv (k := k + 1) hn h n (Nat.le_refl _)
    have := b1.2.1
    rw [b2, Nat.sub_self, e2] at this
    simp [cnt] at this
  · exact g
end Go.Proofs.YtbgeobpdojmdaaaDoor
