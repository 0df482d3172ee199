import Derived.Test.YtknallkcengbbaaGreatDoorWd
import Derived.BigQuiet
import Derived.Deep.QuietTactic
import Derived.Lib.IndexLaws
import Derived.Shelf.Strings.Search2
import Derived.Shelf.Strconv.Atoi
import Derived.Shelf.Lay
import Derived.Ground.NamesProg
namespace Go.Proofs
open Go.Shelf
shelf_lay Lays.n219 Nm 219 at Tryz as Tryz.laysIndex
shelf_lay Lays.n172 Nm 172 at Tryz as Tryz.laysAtoi
end Go.Proofs
namespace Go.Proofs.YtknallkcengbbaaGreatDoor
open Go.RowKit
set_option linter.unusedVariables false
set_option linter.unusedSimpArgs false

/-- a digit's byte. -/
def dgB (c : Nat) : Bool := decide ((48 : Int) ≤ c) && decide ((c : Int) ≤ 57)
def dgAt (s : ByteArray) (k : Nat) : Bool := dgB (s.data[k]?.getD 0).toNat
/-- the run of digits from k on ends at b. -/
def RunIs (s : ByteArray) (k b : Nat) : Prop := k ≤ b ∧ b ≤ s.size ∧ (∀ j, k ≤ j → j < b → dgAt s j = true) ∧ (b < s.size → dgAt s b = false)
theorem dgB_iff (c : Nat) : dgB c = true ↔ 48 ≤ c ∧ c ≤ 57 := by simp [dgB]; omega
theorem dgAt_eq {s : ByteArray} {k : Nat} (h : k < s.size) : dgB (s[k]'h).toNat = dgAt s k := by
  unfold dgAt
  have : s.data[k]? = some (s[k]'h) := Array.getElem?_eq_getElem h
  rw [this]; rfl
theorem run_index_at (s : ByteArray) (k : Nat) (h : k < s.size) (w : World) : (Instr.index 9 (.string s) (.int .i64 (k : Int))).run Tryz.prog w = .ok (.int .u8 ((s[k]'h).toNat : Int)) w := by
  rw [run_index_string w 9 s .i64 k Tryz.underlying9]
  have h' : 0 ≤ (k : Int) ∧ (k : Int) < s.size := by omega
  rw [dif_pos h']
  simp

set_option maxHeartbeats 1000000 in
theorem l7Digit_any (c : Nat) (w : World) :
    Calls Tryz.prog 121 #[.int .u8 (c : Int)] w fun e w' => e = .returned (.bool (dgB c)) ∧ w' = w := by
  cases h1 : decide ((48 : Int) ≤ c) <;> cases h2 : decide ((c : Int) ≤ 57)
  all_goals
    have E : Hid (_ = dgB c) := (by unfold Hid dgB; rw [h1, h2])
    go_enter Tryz.func121, Tryz.ntmps121
    go_wp2
    go_ret
    exact ⟨ret_bool E.out, rfl⟩
set_option maxHeartbeats 1000000 in
theorem isDigit_any (c : Nat) (w : World) :
    Calls Tryz.prog 107 #[.int .i32 (c : Int)] w fun e w' => e = .returned (.bool (dgB c)) ∧ w' = w := by
  cases h1 : decide ((48 : Int) ≤ c) <;> cases h2 : decide ((c : Int) ≤ 57)
  all_goals
    have E : Hid (_ = dgB c) := (by unfold Hid dgB; rw [h1, h2])
    go_enter Tryz.func107, Tryz.ntmps107
    go_wp2
    go_ret
    exact ⟨ret_bool E.out, rfl⟩

set_option maxHeartbeats 2000000 in
theorem l7Run_any (s : ByteArray) (k : Nat) (hk : k ≤ s.size) (hs : s.size ≤ 1048576) (w : World) :
    Calls Tryz.prog 102 #[.string s, .int .i64 (k : Int)] w fun e w' => (∃ b : Nat, e = .returned (.int .i64 (b : Int)) ∧ RunIs s k b) ∧ w' = w := by
  go_enter Tryz.func102, Tryz.ntmps102
  go_wp2_with fail
  go_loop [1] (fun i => ∃ q : Nat, k ≤ q ∧ q ≤ s.size ∧ i = .int .i64 q ∧ Hid (∀ j, k ≤ j → j < q → dgAt s j = true)) (fun i => s.size - (intOf i).toNat)
  case atStart => exact ⟨k, Nat.le_refl _, hk, rfl, fun j h1 h2 => absurd h1 (by omega)⟩
  case round =>
    obtain ⟨q, kq, hq, rfl, hall⟩ := hrel
    by_cases hlt : q < s.size
    · have hi := run_index_at s q hlt
      have hltI : (q : Int) < (s.size : Int) := by omega
      cases hb : dgAt s q
      · go_wp2_with (go_at_call 121; refine (l7Digit_any _ _).mono ?_; rintro e w' ⟨rfl, rfl⟩; rw [dgAt_eq hlt, hb])
        go_ret
        exact ⟨⟨q, rfl, kq, hq, hall.out, fun _ => hb⟩, rfl⟩
      · go_wp2_with (go_at_call 121; refine (l7Digit_any _ _).mono ?_; rintro e w' ⟨rfl, rfl⟩; rw [dgAt_eq hlt, hb])
        go_round
        case rel => exact ⟨q + 1, by omega, by omega, by go_num, fun j h1 h2 => by
          by_cases h : j = q
          · subst h; exact hb
          · exact hall.out j h1 (by omega)⟩
        case measure => simp [intOf]; omega
    · have hltI : ¬ (q : Int) < (s.size : Int) := by omega
      go_wp2_with fail
      go_ret
      exact ⟨⟨q, rfl, kq, hq, hall.out, fun h => absurd h hlt⟩, rfl⟩

/-- the number that a text of digits alone tells. -/
def numIs (s : ByteArray) (n : Nat) : Prop := Lib.decFrom 0 s.data.toList = some n
theorem toList_at {s : ByteArray} {k : Nat} (h : k < s.size) : s.data.toList[k]? = some (s[k]'h) := by
  rw [Array.getElem?_toList]; exact Array.getElem?_eq_getElem h
theorem digit_val {s : ByteArray} {k : Nat} (h : k < s.size) (hd : dgAt s k = true) : Lib.digitVal (s[k]'h) = some ((s[k]'h).toNat - 48) ∧ 48 ≤ (s[k]'h).toNat ∧ (s[k]'h).toNat ≤ 57 := by
  rw [← dgAt_eq h, dgB_iff] at hd
  refine ⟨?_, hd⟩
  unfold Lib.digitVal
  rw [if_pos hd]

set_option maxHeartbeats 2000000 in
theorem l7Number_any (s : ByteArray) (hd : ∀ j, j < s.size → dgAt s j = true) (hs : s.size ≤ 15) (w : World) :
    Calls Tryz.prog 103 #[.string s] w fun e w' => (∃ n : Nat, e = .returned (.int .i64 (n : Int)) ∧ numIs s n ∧ n < 1000000000000000) ∧ w' = w := by
  go_enter Tryz.func103, Tryz.ntmps103
  go_wp2_with fail
  go_loop [3, 4] (fun nv i => ∃ q n : Nat, q ≤ s.size ∧ i = .int .i64 q ∧ nv = .int .i64 n ∧ Hid (Lib.decFrom 0 (s.data.toList.take q) = some n)) (fun _ i => s.size - (intOf i).toNat)
  case atStart => exact ⟨0, 0, Nat.zero_le _, rfl, rfl, rfl⟩
  case round =>
    obtain ⟨q, n, hq, rfl, rfl, hn⟩ := hrel
    have hb : n < 1000000000000000 := by
      have h1 := Lib.decFrom_lt _ _ _ hn.out
      have h2 : (s.data.toList.take q).length ≤ 15 := by simp; have : s.data.size = s.size := rfl; omega
      have h3 : 10 ^ (s.data.toList.take q).length ≤ 10 ^ 15 := Nat.pow_le_pow_right (by omega) h2
      simp only [Nat.zero_add, Nat.one_mul] at h1
      exact Nat.lt_of_lt_of_le h1 (by simpa using h3)
    by_cases hlt : q < s.size
    · have hi := run_index_at s q hlt
      have hltI : (q : Int) < (s.size : Int) := by omega
      obtain ⟨d1, d2, d3⟩ := digit_val hlt (hd q hlt)
      have hn' := Lib.decFrom_take _ q 0 n _ _ hn.out (toList_at hlt) d1
      obtain ⟨c, hc⟩ : ∃ c, (s[q]'hlt).toNat = c := ⟨_, rfl⟩
      rw [hc] at d2 d3 hn'
      simp only [hc] at hi
      clear hc d1
      have HN : Hid (Lib.decFrom 0 (s.data.toList.take (q + 1)) = some (n * 10 + (c - 48))) := hn'
      have w1 : IntKind.i64.wrap ((n : Int) * 10) = (n : Int) * 10 := by rw [IntKind.wrap_i64]; omega
      have w2 : IntKind.u8.wrap ((c : Int) - 48) = (c : Int) - 48 := by rw [IntKind.wrap_u8]; omega
      have w3 : IntKind.i64.wrap ((c : Int) - 48) = (c : Int) - 48 := by rw [IntKind.wrap_i64]; omega
      have w4 : IntKind.i64.wrap ((n : Int) * 10 + ((c : Int) - 48)) = (n : Int) * 10 + ((c : Int) - 48) := by rw [IntKind.wrap_i64]; omega
      clear hn'
      go_wp2_with fail
      go_round
      case rel => exact ⟨q + 1, n * 10 + (c - 48), by omega, by go_num, by congr 1; omega, HN⟩
      case measure => simp [intOf]; omega
    · have hltI : ¬ (q : Int) < (s.size : Int) := by omega
      go_wp2_with fail
      go_ret
      refine ⟨⟨n, rfl, ?_, hb⟩, rfl⟩
      have e : s.data.toList.take q = s.data.toList := List.take_of_length_le (by simp; have : s.data.size = s.size := rfl; omega)
      unfold numIs
      rw [← e]; exact hn.out
end Go.Proofs.YtknallkcengbbaaGreatDoor
