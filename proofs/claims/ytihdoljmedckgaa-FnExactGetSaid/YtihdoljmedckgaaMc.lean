import Derived.Test.YtihdoljmedckgaaMb
namespace Go.Proofs.Ytihdoljmedckgaa
open Go.RowKit Go.Maps Go.WideMaps
set_option linter.unusedVariables false
set_option linter.unusedSimpArgs false

def letAt (s : ByteArray) (k : Nat) : Bool := letB (s.data[k]?.getD 0).toNat
def lettersB (s : ByteArray) : Bool := decide (1 ≤ s.size) && decide (s.size ≤ 12) && decide (∀ j, j < s.size → letAt s j = true)
def nameB (s : ByteArray) : Bool := lettersB s && !isW s

theorem letAt_eq {s : ByteArray} {k : Nat} (h : k < s.size) : letB (s[k]'h).toNat = letAt s k := by
  unfold letAt
  have : s.data[k]? = some (s[k]'h) := Array.getElem?_eq_getElem h
  rw [this]; rfl

theorem run_index_at (s : ByteArray) (k : Nat) (h : k < s.size) (w : World) : (Instr.index 9 (.string s) (.int .i64 (k : Int))).run Try.prog w = .ok (.int .u8 ((s[k]'h).toNat : Int)) w := by
  rw [run_index_string w 9 s .i64 k Try.underlying9]
  have h' : 0 ≤ (k : Int) ∧ (k : Int) < s.size := by omega
  rw [dif_pos h']
  simp

set_option maxHeartbeats 2000000 in
theorem lettersOk_any (s : ByteArray) (w : World) :
    Calls Try.prog 118 #[.string s] w fun e w' => e = .returned (.bool (lettersB s)) ∧ w' = w := by
  obtain ⟨n, hn⟩ : ∃ n, Hid (s.size = n) := ⟨_, rfl⟩
  by_cases h1 : 1 ≤ s.size
  · by_cases h2 : s.size ≤ 12
    · have t1 : decide ((s.size : Int) < 1) = false := by simp; omega
      have t2 : decide ((12 : Int) < (s.size : Int)) = false := by simp; omega
      go_enter Try.func118, Try.ntmps118
      go_wp2_with fail
      go_loop [14] (fun i => ∃ k : Nat, k ≤ s.size ∧ i = .int .i64 k ∧ Hid (∀ j, j < k → letAt s j = true)) (fun i => s.size - (intOf i).toNat)
      case atStart => exact ⟨0, Nat.zero_le _, rfl, fun j hj => absurd hj (by omega)⟩
      case round =>
        obtain ⟨k, hk, rfl, hall⟩ := hrel
        by_cases hlt : k < s.size
        · have hi := run_index_at s k hlt
          cases hb : letAt s k
          · have E : Hid (lettersB s = false) := by
              unfold Hid lettersB
              simp only [Bool.and_eq_false_imp, decide_eq_false_iff_not]
              exact fun _ h => by rw [h k hlt] at hb; cases hb
            go_wp2_with (go_at_call 133; refine (isLetter_any _ _).mono ?_; rintro e w' ⟨rfl, rfl⟩; rw [letAt_eq hlt, hb])
            go_ret
            exact ⟨ret_boolw E.out.symm, rfl⟩
          · have hs' : Hid (∀ j, j < k + 1 → letAt s j = true) := by
              intro j hj
              by_cases h : j = k
              · subst h; exact hb
              · exact hall.out j (by omega)
            go_wp2_with (go_at_call 133; refine (isLetter_any _ _).mono ?_; rintro e w' ⟨rfl, rfl⟩; rw [letAt_eq hlt, hb])
            go_round
            case rel => exact ⟨k + 1, by omega, by go_num, hs'⟩
            case measure => simp [intOf]; omega
        · have E : Hid (lettersB s = true) := by
            unfold Hid lettersB
            simp only [Bool.and_eq_true, decide_eq_true_eq]
            exact ⟨⟨h1, h2⟩, fun j hj => hall.out j (by omega)⟩
          go_wp2_with fail
          go_ret
          exact ⟨ret_boolw E.out.symm, rfl⟩
    · have t1 : decide ((s.size : Int) < 1) = false := by simp; omega
      have t2 : decide ((12 : Int) < (s.size : Int)) = true := by simp; omega
      have E : Hid (lettersB s = false) := by simp [Hid, lettersB, h2]
      go_enter Try.func118, Try.ntmps118
      go_wp2_with fail
      go_ret
      exact ⟨ret_boolw E.out.symm, rfl⟩
  · have t1 : decide ((s.size : Int) < 1) = true := by simp; omega
    have E : Hid (lettersB s = false) := by simp [Hid, lettersB, h1]
    go_enter Try.func118, Try.ntmps118
    go_wp2_with fail
    go_ret
    exact ⟨ret_boolw E.out.symm, rfl⟩
end Go.Proofs.Ytihdoljmedckgaa
