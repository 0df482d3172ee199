import Derived.Test.YtbgeobpdojmdaaaDoorG50
namespace Go.Proofs.YtbgeobpdojmdaaaDoor
open Go.RowKit
set_option linter.unusedVariables false
set_option linter.unusedSimpArgs false

/-- the best of the numbers from j on. -/
def Bst (R : Nat → Nat → Bool) (n j best first : Nat) : Prop :=
  (best = 0 ∧ ∀ y, j ≤ y → y < n → wayF R n y y = 0) ∨ (0 < best ∧ j ≤ first ∧ first < n ∧ wayF R n first first = best ∧ (∀ y, j ≤ y → y < n → wayF R n y y = 0 ∨ best ≤ wayF R n y y) ∧ ∀ y, j ≤ y → y < first → ¬ wayF R n y y = best)
theorem Bst.take {R : Nat → Nat → Bool} {n j best first : Nat} (h : Bst R n (j + 1) best first) (hj : j < n) (h0 : 0 < wayF R n j j) (hb : best = 0 ∨ wayF R n j j ≤ best) : Bst R n j (wayF R n j j) j := by
  refine Or.inr ⟨h0, Nat.le_refl _, hj, rfl, fun y h1 h2 => ?_, fun y h1 h2 => by omega⟩
  by_cases e : y = j
  · subst e; exact Or.inr (Nat.le_refl _)
  · rcases h with ⟨_, g⟩ | ⟨g0, _, _, _, g, _⟩
    · exact Or.inl (g y (by omega) h2)
    · rcases g y (by omega) h2 with q | q
      · exact Or.inl q
      · exact Or.inr (by omega)
theorem Bst.skip {R : Nat → Nat → Bool} {n j best first : Nat} (h : Bst R n (j + 1) best first) (hb : wayF R n j j = 0 ∨ (0 < best ∧ best < wayF R n j j)) : Bst R n j best first := by
  rcases h with ⟨g0, g⟩ | ⟨g0, g1, g2, g3, g4, g5⟩
  · refine Or.inl ⟨g0, fun y h1 h2 => ?_⟩
    by_cases e : y = j
    · subst e; omega
    · exact g y (by omega) h2
  · refine Or.inr ⟨g0, by omega, g2, g3, fun y h1 h2 => ?_, fun y h1 h2 => ?_⟩
    · by_cases e : y = j
      · subst e; omega
      · exact g4 y (by omega) h2
    · by_cases e : y = j
      · subst e; omega
      · exact g5 y (by omega) h2
theorem way_no {R : Nat → Nat → Bool} {n y : Nat} (hR : Sup R n) (h : wayF R n y y = 0) {d : Nat} (h1 : 1 ≤ d) (h2 : d ≤ n) : ¬ wk R d y y := by
  intro g
  rcases way_cases R n y y with ⟨_, q⟩ | ⟨e, _, q, _, _⟩
  · have := q (d - 1) (by omega)
    rw [show d - 1 + 1 = d by omega, (rch_iff hR d y).2 g] at this
    cases this
  · omega
theorem way_min {R : Nat → Nat → Bool} {n y : Nat} (hR : Sup R n) {d : Nat} (h1 : 1 ≤ d) (h2 : d ≤ n) (hd : d < wayF R n y y) : ¬ wk R d y y := by
  intro g
  rcases way_cases R n y y with ⟨q, _⟩ | ⟨e, _, q, _, q2⟩
  · omega
  · have := q2 (d - 1) (by omega)
    rw [show d - 1 + 1 = d by omega, (rch_iff hR d y).2 g] at this
    cases this
theorem Bst.no {R : Nat → Nat → Bool} {n first : Nat} (hR : Sup R n) (h : Bst R n 0 0 first) : NoC R n := by
  rcases h with ⟨_, g⟩ | ⟨g, _⟩
  · intro d x h1 h2 w
    obtain ⟨q, rfl⟩ : ∃ q, d = q + 1 := ⟨d - 1, by omega⟩
    obtain ⟨m, _, hm⟩ := w
    have hx := (hR m x hm).2
    exact way_no hR (g x (Nat.zero_le _) hx) h1 h2 ⟨m, by assumption, hm⟩
  · omega
theorem Bst.min {R : Nat → Nat → Bool} {n best first : Nat} (hR : Sup R n) (h : Bst R n 0 best first) (hb : 0 < best) : MinC R n best first := by
  rcases h with ⟨g, _⟩ | ⟨_, _, g2, g3, g4, g5⟩
  · omega
  · have hw : best ≤ n ∧ wk R best first first := by
      rcases way_cases R n first first with ⟨q, _⟩ | ⟨e, he, q, q1, _⟩
      · omega
      · rw [g3] at q
        exact ⟨by omega, by rw [q]; exact (rch_iff hR (e + 1) first).1 q1⟩
    refine ⟨hb, hw.1, g2, hw.2, fun d y h1 h2 w => ?_, fun y hy w => ?_⟩
    · have hy : y < n := by
        obtain ⟨q, rfl⟩ : ∃ q, d = q + 1 := ⟨d - 1, by omega⟩
        obtain ⟨m, _, hm⟩ := w
        exact (hR m y hm).2
      rcases g4 y (Nat.zero_le _) hy with q | q
      · exact way_no hR q h1 (by omega) w
      · exact way_min hR h1 (by omega) (by omega) w
    · have hy2 : y < n := by omega
      rcases g4 y (Nat.zero_le _) hy2 with q | q
      · exact way_no hR q hb hw.1 w
      · by_cases e : best = wayF R n y y
        · exact g5 y (Nat.zero_le _) hy e.symm
        · exact way_min hR hb hw.1 (by omega) w
theorem cSq_step {R : Nat → Nat → Bool} {n D x k y z : Nat} {O : List Int} (h : cSq R n D x k = (O, y)) (hz : nxC R n x (D - 1 - k) y = some z) : cSq R n D x (k + 1) = (O ++ [(z : Int)], z) := by
  simp only [cSq, h, hz]
/-- what stands behind k steps. -/
def CI (R : Nat → Nat → Bool) (n D x k : Nat) (O : List Int) (y : Nat) : Prop := cSq R n D x k = (O, y) ∧ O.length = k + 1 ∧ O[k]?.getD 0 = (y : Int) ∧ OnC R n D x k y
theorem CI.start {R : Nat → Nat → Bool} {n D x : Nat} (h : MinC R n D x) : CI R n D x 0 [(x : Int)] x := ⟨rfl, rfl, rfl, OnC.start h⟩
theorem CI.step {R : Nat → Nat → Bool} {n D x k y z : Nat} {O : List Int} (h : CI R n D x k O y) (hz : nxC R n x (D - 1 - k) y = some z) (ho : OnC R n D x (k + 1) z) : CI R n D x (k + 1) (O ++ [(z : Int)]) z := by
  obtain ⟨a, b, c, d⟩ := h
  refine ⟨cSq_step a hz, by simp [b], ?_, ho⟩
  rw [List.getElem?_append_right (by omega), b, Nat.sub_self]; simp
end Go.Proofs.YtbgeobpdojmdaaaDoor
