import Derived.Test.YtmhiddepddgfgaaDoorWx
import Derived.Test.YtmhiddepddgfgaaDoorWpa
import Derived.Test.YtmhiddepddgfgaaDoorWf
namespace Go.Proofs.YtmhiddepddgfgaaDoor
open Go.RowKit
set_option linter.unusedSimpArgs false

theorem negF_negF (x : Nat) : negF (negF x) = x := by
  unfold negF; rw [Nat.xor_assoc, Nat.xor_self, Nat.xor_zero]
theorem is_word {x y : Nat} (h : Is (some x) y) : y = x := by
  rcases h.2 with h | ⟨h, _⟩
  · exact (Option.some.inj h).symm
  · cases h
theorem wrap_neg2 {i : Int} (h : -9223372036854775808 ≤ i ∧ i ≤ 9223372036854775807) : wrap64 (-(wrap64 (-i))) = i := by
  unfold wrap64; omega

theorem ok1v {i : Int} {x y : Nat} (h : okB 1 i x y = true) : x = 0 ∧ y = 0 := by
  simp [okB, plusB] at h; exact h
theorem ok2v {i : Int} {x y : Nat} (h : okB 2 i x y = true) : i = 0 ∧ y = 0 := by
  simp [okB, plusB] at h; exact h
theorem ok3v {i : Int} {x y : Nat} (h : okB 3 i x y = true) : i = 0 := by
  simp [okB, plusB] at h; exact h
theorem ok4v {i : Int} {x y : Nat} (h : okB 4 i x y = true) : (i = 0 ∨ i = 1) ∧ x = 0 ∧ y = 0 := by
  simp [okB, plusB] at h; exact ⟨h.1.1, h.1.2, h.2⟩

/-- what is turned twice, by a sign or by a not, is itself. -/
theorem turn_twice {op k i : Int} {x y : Nat} (ho : op ≤ 2) (hi : -9223372036854775808 ≤ i ∧ i ≤ 9223372036854775807) (h0 : (turnOut op k i x y).2 = 0) {k' i' : Int} {x' y' : Nat} (hv : VIs (turnOut op k i x y).1 k' i' x' y') :
    (turnOut op k' i' x' y').2 = 0 ∧ ∀ (k'' i'' : Int) (x'' y'' : Nat), VIs (turnOut op k' i' x' y').1 k'' i'' x'' y'' → eqB k'' i'' x'' y'' k i x y = true := by
  by_cases hok : okB k i x y = true
  · by_cases h1 : k = 1
    · subst h1
      obtain ⟨rfl, rfl⟩ := ok1v hok
      by_cases o1 : op = 1
      · subst o1
        have E : turnOut 1 1 i 0 0 = (iV (wrap64 (-i)), 0) := by simp [turnOut, intTurnOut, hok]
        rw [E] at hv
        obtain ⟨rfl, rfl, a, b⟩ := hv
        obtain rfl := is_word a
        obtain rfl := is_word b
        have E2 : turnOut 1 (iV (wrap64 (-i))).1 (iV (wrap64 (-i))).2.1 0 0 = (iV i, 0) := by
          have : turnOut 1 1 (wrap64 (-i)) 0 0 = (iV (wrap64 (-(wrap64 (-i)))), 0) := by simp [turnOut, intTurnOut, okB, plusB]
          rw [wrap_neg2 hi] at this
          exact this
        rw [E2]
        refine ⟨rfl, ?_⟩
        rintro k'' i'' x'' y'' ⟨rfl, rfl, a, b⟩
        rw [is_word a, is_word b]
        simp [eqB, iV, sameB_refl]
      · have o5 : ¬ op = 5 := by omega
        simp [turnOut, hok, intTurnOut, o1, o5] at h0
    · by_cases h2 : k = 2
      · subst h2
        obtain ⟨rfl, rfl⟩ := ok2v hok
        by_cases o1 : op = 1
        · subst o1
          have E : turnOut 1 2 0 x 0 = (rV (some (negF x)), 0) := by simp [turnOut, realTurnOut, hok]
          rw [E] at hv
          obtain ⟨rfl, rfl, a, b⟩ := hv
          obtain rfl := is_word a
          obtain rfl := is_word b
          have E2 : turnOut 1 (rV (some (negF x))).1 (rV (some (negF x))).2.1 (negF x) 0 = (rV (some x), 0) := by
            have : turnOut 1 2 0 (negF x) 0 = (rV (some (negF (negF x))), 0) := by simp [turnOut, realTurnOut, okB, plusB]
            rw [negF_negF] at this
            exact this
          rw [E2]
          refine ⟨rfl, ?_⟩
          rintro k'' i'' x'' y'' ⟨rfl, rfl, a, b⟩
          rw [is_word a, is_word b]
          simp [eqB, rV, sameB_refl]
        · simp [turnOut, hok, realTurnOut, o1] at h0
      · by_cases h3 : k = 3
        · subst h3
          obtain rfl := ok3v hok
          by_cases o1 : op = 1
          · subst o1
            have E : turnOut 1 3 0 x y = (pV (some (negF x)) (some (negF y)), 0) := by simp [turnOut, pairTurnOut, hok]
            rw [E] at hv
            obtain ⟨rfl, rfl, a, b⟩ := hv
            obtain rfl := is_word a
            obtain rfl := is_word b
            have E2 : turnOut 1 (pV (some (negF x)) (some (negF y))).1 (pV (some (negF x)) (some (negF y))).2.1 (negF x) (negF y) = (pV (some x) (some y), 0) := by
              have : turnOut 1 3 0 (negF x) (negF y) = (pV (some (negF (negF x))) (some (negF (negF y))), 0) := by simp [turnOut, pairTurnOut, okB, plusB]
              rw [negF_negF, negF_negF] at this
              exact this
            rw [E2]
            refine ⟨rfl, ?_⟩
            rintro k'' i'' x'' y'' ⟨rfl, rfl, a, b⟩
            rw [is_word a, is_word b]
            simp [eqB, pV, sameB_refl]
          · have o3 : ¬ op = 3 := by omega
            have o4 : ¬ op = 4 := by omega
            have o6 : ¬ op = 6 := by omega
            simp [turnOut, hok, pairTurnOut, o1, o3, o4, o6] at h0
        · have h4 : k = 4 := by
            by_cases h : k = 4
            · exact h
            · simp [okB, h1, h2, h3, h] at hok
          subst h4
          obtain ⟨hb, rfl, rfl⟩ := ok4v hok
          by_cases o2 : op = 2
          · subst o2
            rcases hb with rfl | rfl
            · have E : turnOut 2 4 0 0 0 = (bV true, 0) := by simp [turnOut, boolTurnOut, hok]
              rw [E] at hv
              obtain ⟨rfl, rfl, a, b⟩ := hv
              obtain rfl := is_word a
              obtain rfl := is_word b
              have E2 : turnOut 2 (bV true).1 (bV true).2.1 0 0 = (bV false, 0) := by simp [bV, bN, turnOut, boolTurnOut, okB, plusB]
              rw [E2]
              refine ⟨rfl, ?_⟩
              rintro k'' i'' x'' y'' ⟨rfl, rfl, a, b⟩
              rw [is_word a, is_word b]
              simp [eqB, bV, bN, sameB_refl]
            · have E : turnOut 2 4 1 0 0 = (bV false, 0) := by simp [turnOut, boolTurnOut, hok]
              rw [E] at hv
              obtain ⟨rfl, rfl, a, b⟩ := hv
              obtain rfl := is_word a
              obtain rfl := is_word b
              have E2 : turnOut 2 (bV false).1 (bV false).2.1 0 0 = (bV true, 0) := by simp [bV, bN, turnOut, boolTurnOut, okB, plusB]
              rw [E2]
              refine ⟨rfl, ?_⟩
              rintro k'' i'' x'' y'' ⟨rfl, rfl, a, b⟩
              rw [is_word a, is_word b]
              simp [eqB, bV, bN, sameB_refl]
          · simp [turnOut, hok, boolTurnOut, o2] at h0
  · simp [turnOut, hok] at h0

theorem vis_lt {o : V} {k i : Int} {x y : Nat} (h : VIs o k i x y) : x < 18446744073709551616 ∧ y < 18446744073709551616 := ⟨h.2.2.1.1, h.2.2.2.1⟩
theorem vis_same {o : V} {k i : Int} {x y : Nat} {l j : Int} {u v : Nat} (h : VIs o k i x y) (g : VIs o l j u v) : eqB k i x y l j u v = true := by
  obtain ⟨rfl, rfl, a, b⟩ := h
  obtain ⟨rfl, rfl, c, d⟩ := g
  simp [eqB, a.same c, b.same d]
theorem part_re {x y : Nat} : turnOut 3 3 0 x y = (rV (some x), 0) := by simp [turnOut, pairTurnOut, okB]
theorem part_im {x y : Nat} : turnOut 4 3 0 x y = (rV (some y), 0) := by simp [turnOut, pairTurnOut, okB]
theorem pair_parts {x y : Nat} : pairC 2 0 x 0 2 0 y 0 = true := by simp [pairC, okB, plusB]
theorem eqB_refl (k i : Int) (x y : Nat) : eqB k i x y k i x y = true := by simp [eqB, sameB_refl]
end Go.Proofs.YtmhiddepddgfgaaDoor
