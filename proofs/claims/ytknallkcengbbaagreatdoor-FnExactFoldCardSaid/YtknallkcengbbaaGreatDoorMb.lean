import Derived.Test.YtknallkcengbbaaGreatDoorMa
namespace Go.Proofs.YtknallkcengbbaaGreatDoor
open Go.RowKit Go.Maps Go.WideMaps
set_option linter.unusedVariables false
set_option linter.unusedSimpArgs false

theorem ret_boolw {a b : Bool} (h : a = b) : Ending.returned (.bool a) = .returned (.bool b) := by rw [h]

/-- two texts are compared. -/
theorem toList_same (t s : ByteArray) : (t.toList == s.toList) = decide (t = s) := by
  rw [ByteArray.toList_eq, ByteArray.toList_eq, Bool.eq_iff_iff]
  simp only [beq_iff_eq, decide_eq_true_eq]
  exact ⟨WideShapes.bytes_inj, fun h => by rw [h]⟩
theorem toList_ne {t s : ByteArray} (h : ¬ t = s) : (t.toList == s.toList) = false := by rw [toList_same]; simp [h]
theorem toList_eq' {t s : ByteArray} (h : t = s) : (t.toList == s.toList) = true := by rw [toList_same]; simp [h]

def wordAt (k : Nat) : ByteArray := words[k]?.getD ByteArray.empty

theorem isW_none {s : ByteArray} (h : ∀ j, j < 32 → ¬ wordAt j = s) : isW s = false := by
  unfold isW
  rw [List.any_eq_false]
  intro t ht
  obtain ⟨j, hj, rfl⟩ := List.getElem_of_mem ht
  have := h j hj
  simp only [wordAt, List.getElem?_eq_getElem hj, Option.getD_some] at this
  simpa using this
theorem isW_some {s : ByteArray} {j : Nat} (hj : j < 32) (h : wordAt j = s) : isW s = true := by
  unfold isW
  rw [List.any_eq_true]
  have hj' : j < words.length := hj
  refine ⟨words[j], List.getElem_mem hj', ?_⟩
  simp only [wordAt, List.getElem?_eq_getElem hj', Option.getD_some] at h
  simp [h]

theorem wordl_cell {j : Nat} (hj : j < 32) : ((words.map Value.string).toArray)[j]? = some (.string (wordAt j)) := by
  have hj' : j < words.length := hj
  simp [wordAt, List.getElem?_eq_getElem hj']

set_option maxRecDepth 100000 in
set_option maxHeartbeats 4000000 in
theorem l3Words_any (w : World) :
    Calls Tryz.prog 120 #[] w fun e w' => e = .returned (.slice (some ⟨w.heap.size, 0, none⟩) 32 32) ∧ (∀ j, j < 32 → w'.cell? ⟨w.heap.size, j, none⟩ = some (.string (wordAt j))) ∧ Below w.heap.size w w' := by
  go_enter Tryz.func120, Tryz.ntmps120
  go_wp2_with fail
  go_ret
  refine ⟨rfl, fun j hj => ?_, bl_alloc (Below.refl _ w) _⟩
  exact ((Blk.new w _ _).cell j).trans (wordl_cell hj)

set_option maxHeartbeats 2000000 in
theorem specIsWord_any (s : ByteArray) (w : World) :
    Calls Tryz.prog 101 #[.string s] w fun e w' => e = .returned (.bool (isW s)) ∧ Below w.heap.size w w' := by
  go_enter Tryz.func101, Tryz.ntmps101
  go_wp2_with fail
  refine (l3Words_any _).mono ?_
  rintro e w1 ⟨rfl, hc, hb⟩
  go_wp2_with fail
  go_loop [4] (fun i => ∃ k : Nat, k ≤ 32 ∧ i = .int .i64 k ∧ Hid (∀ j, j < k → ¬ wordAt j = s)) (fun i => 32 - (intOf i).toNat)
  case atStart => exact ⟨0, Nat.zero_le _, rfl, fun j hj => absurd hj (by omega)⟩
  case round =>
    obtain ⟨k, hk, rfl, hn⟩ := hrel
    by_cases hlt : k < 32
    · have d1 := hc k hlt
      obtain ⟨t, ht⟩ : ∃ t, Hid (wordAt k = t) := ⟨_, rfl⟩
      rw [ht.out] at d1
      clear hc
      by_cases he : t = s
      · have hg : Hid (isW s = true) := isW_some hlt (ht.out.trans he)
        have hq := toList_eq' he
        go_wp2_with fail
        go_ret
        exact ⟨ret_boolw hg.out.symm, hb⟩
      · have hs' : Hid (∀ j, j < k + 1 → ¬ wordAt j = s) := by
          intro j hj
          by_cases h : j = k
          · subst h; rw [ht.out]; exact he
          · exact hn.out j (by omega)
        have hq := toList_ne he
        go_wp2_with fail
        go_round
        case rel => exact ⟨k + 1, by omega, by go_num, hs'⟩
        case measure => simp [intOf]; omega
    · have hg : Hid (isW s = false) := isW_none (fun j hj => hn.out j (by omega))
      go_wp2_with fail
      go_ret
      exact ⟨ret_boolw hg.out.symm, hb⟩

def letB (c : Nat) : Bool := (decide ((97 : Int) ≤ c) && decide ((c : Int) ≤ 122)) || (decide ((65 : Int) ≤ c) && decide ((c : Int) ≤ 90))

set_option maxHeartbeats 2000000 in
theorem isLetter_any (c : Nat) (w : World) :
    Calls Tryz.prog 78 #[.int .i32 (c : Int)] w fun e w' => e = .returned (.bool (letB c)) ∧ w' = w := by
  cases h1 : decide ((97 : Int) ≤ c) <;> cases h2 : decide ((c : Int) ≤ 122) <;> cases h3 : decide ((65 : Int) ≤ c) <;> cases h4 : decide ((c : Int) ≤ 90)
  all_goals
    have E : Hid (_ = letB c) := (by unfold Hid letB; rw [h1, h2, h3, h4])
    go_enter Tryz.func78, Tryz.ntmps78
    go_wp2_with fail
    go_ret
    exact ⟨ret_boolw E.out, rfl⟩

set_option maxHeartbeats 2000000 in
theorem l3Letter_any (c : Nat) (w : World) :
    Calls Tryz.prog 100 #[.int .u8 (c : Int)] w fun e w' => e = .returned (.bool (letB c)) ∧ w' = w := by
  cases h1 : decide ((97 : Int) ≤ c) <;> cases h2 : decide ((c : Int) ≤ 122) <;> cases h3 : decide ((65 : Int) ≤ c) <;> cases h4 : decide ((c : Int) ≤ 90)
  all_goals
    have E : Hid (_ = letB c) := (by unfold Hid letB; rw [h1, h2, h3, h4])
    go_enter Tryz.func100, Tryz.ntmps100
    go_wp2_with fail
    go_ret
    exact ⟨ret_boolw E.out, rfl⟩

end Go.Proofs.YtknallkcengbbaaGreatDoor
