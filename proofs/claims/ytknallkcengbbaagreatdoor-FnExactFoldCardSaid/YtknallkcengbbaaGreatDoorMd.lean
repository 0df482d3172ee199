import Derived.Test.YtknallkcengbbaaGreatDoorMc
import Derived.Test.YtknallkcengbbaaGreatDoorEd
namespace Go.Proofs.YtknallkcengbbaaGreatDoor
open Go.RowKit Go.Maps Go.WideMaps
set_option linter.unusedVariables false
set_option linter.unusedSimpArgs false

set_option maxHeartbeats 2000000 in
theorem specNameOk_any (s : ByteArray) (w : World) :
    Calls Tryz.prog 67 #[.string s] w fun e w' => e = .returned (.bool (nameB s)) ∧ Below w.heap.size w w' := by
  cases h1 : (decide (1 ≤ (s.size : Int)) && decide ((s.size : Int) ≤ 12))
  · have E : Hid (false = nameB s) := by
      unfold Hid nameB lettersB
      simp only [Bool.and_eq_false_imp, decide_eq_true_eq, decide_eq_false_iff_not] at h1
      symm
      simp only [Bool.and_eq_false_imp, Bool.and_eq_true, decide_eq_true_eq]
      rintro ⟨⟨a, b⟩, _⟩
      exact absurd (h1 (by omega)) (by omega)
    go_enter Tryz.func67, Tryz.ntmps67
    go_wp2_with (go_at_call 47; refine (l1In_any _ _ _ _).mono ?_; rintro e w' ⟨rfl, rfl⟩; rw [h1])
    go_ret
    exact ⟨ret_boolw E.out, Below.refl _ _⟩
  · have h2 : 1 ≤ s.size ∧ s.size ≤ 12 := by simp at h1; omega
    go_enter Tryz.func67, Tryz.ntmps67
    go_wp2_with (go_at_call 47; refine (l1In_any _ _ _ _).mono ?_; rintro e w' ⟨rfl, rfl⟩; rw [h1])
    go_loop [3] (fun i => ∃ k : Nat, k ≤ s.size ∧ i = .int .i64 k ∧ Hid (∀ j, j < k → letAt s j = true)) (fun i => s.size - (intOf i).toNat)
    case atStart => exact ⟨0, Nat.zero_le _, rfl, fun j hj => absurd hj (by omega)⟩
    case round =>
      obtain ⟨k, hk, rfl, hall⟩ := hrel
      clear h1
      by_cases hlt : k < s.size
      · have hi := run_index_at s k hlt
        cases hb : letAt s k
        · have E : Hid (nameB s = false) := by
            unfold Hid nameB lettersB
            simp only [Bool.and_eq_false_imp, Bool.and_eq_true, decide_eq_true_eq]
            rintro ⟨_, h⟩
            rw [h k hlt] at hb; cases hb
          go_wp2_with (go_at_call 100; refine (l3Letter_any _ _).mono ?_; rintro e w' ⟨rfl, rfl⟩; rw [letAt_eq hlt, hb])
          go_ret
          exact ⟨ret_boolw E.out.symm, Below.refl _ _⟩
        · have hs' : Hid (∀ j, j < k + 1 → letAt s j = true) := by
            intro j hj
            by_cases h : j = k
            · subst h; exact hb
            · exact hall.out j (by omega)
          go_wp2_with (go_at_call 100; refine (l3Letter_any _ _).mono ?_; rintro e w' ⟨rfl, rfl⟩; rw [letAt_eq hlt, hb])
          go_round
          case rel => exact ⟨k + 1, by omega, by go_num, hs'⟩
          case measure => simp [intOf]; omega
      · have E : Hid ((!isW s) = nameB s) := by
          have hl : lettersB s = true := by
            unfold lettersB
            simp only [Bool.and_eq_true, decide_eq_true_eq]
            exact ⟨h2, fun j hj => hall.out j (by omega)⟩
          simp [Hid, nameB, hl]
        go_wp2_with (go_at_call 101; refine (specIsWord_any _ _).mono ?_; rintro e w1 ⟨rfl, hb1⟩)
        go_ret
        exact ⟨ret_boolw E.out, hb1⟩

end Go.Proofs.YtknallkcengbbaaGreatDoor
