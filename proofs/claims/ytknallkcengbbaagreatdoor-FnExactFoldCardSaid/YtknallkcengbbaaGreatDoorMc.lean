import Derived.Test.YtknallkcengbbaaGreatDoorMb
namespace Go.Proofs.YtknallkcengbbaaGreatDoor
open Go.RowKit Go.Maps Go.WideMaps
set_option linter.unusedVariables false
set_option linter.unusedSimpArgs false

def letAt (s : ByteArray) (k : Nat) : Bool := letB (s.data[k]?.getD 0).toNat
def lettersB (s : ByteArray) : Bool := decide (1 ≤ s.size) && decide (s.size ≤ 12) && decide (∀ j, j < s.size → letAt s j = true)
def nameB (s : ByteArray) : Bool := lettersB s && !isW s

theorem letAt_eq {s : ByteArray} {k : Nat} (h : k < s.size) : letB (s[k]'h).toNat = letAt s k := by
  unfold letAt
  have : s.data[k]? = some (s[k]'h) := Array.getElem?_eq_getElem h
  rw [this]; rfl

theorem run_index_at (s : ByteArray) (k : Nat) (h : k < s.size) (w : World) : (Instr.index 9 (.string s) (.int .i64 (k : Int))).run Tryz.prog w = .ok (.int .u8 ((s[k]'h).toNat : Int)) w := by
  rw [run_index_string w 9 s .i64 k Tryz.underlying9]
  have h' : 0 ≤ (k : Int) ∧ (k : Int) < s.size := by omega
  rw [dif_pos h']
  simp

theorem letB_high {c : Nat} (h : 128 ≤ c) : letB c = false := by
  unfold letB
  have e1 : decide ((c : Int) ≤ 122) = false := by simp; omega
  have e2 : decide ((c : Int) ≤ 90) = false := by simp; omega
  rw [e1, e2]; simp
/-- a rune is a letter where its first byte is one; it has one byte then. -/
theorem rune_let {s : ByteArray} {k : Nat} (h : k < s.size) : letB (Utf8.decode s k).1 = letAt s k ∧ (letAt s k = true → (Utf8.decode s k).2 = 1) := by
  by_cases ha : (s[k]'h).toNat < 128
  · rw [decode_ascii s k h ha]
    exact ⟨letAt_eq h, fun _ => rfl⟩
  · have hh := (decode_high s k h (by omega)).1
    have e : letAt s k = false := by rw [← letAt_eq h]; exact letB_high (by omega)
    rw [letB_high hh, e]
    exact ⟨rfl, fun q => by cases q⟩

set_option maxHeartbeats 2000000 in
theorem lettersOk_any (s : ByteArray) (w : World) :
    Calls Tryz.prog 56 #[.string s] w fun e w' => e = .returned (.bool (lettersB s)) ∧ Below w.heap.size w w' ∧ (lettersB s = true → ∃ pos, w' = w.alloc (.stringIter s pos)) := by
  obtain ⟨n, hn⟩ : ∃ n, Hid (s.size = n) := ⟨_, rfl⟩
  by_cases h1 : 1 ≤ s.size
  · by_cases h2 : s.size ≤ 12
    · have t1 : decide ((s.size : Int) < 1) = false := by simp; omega
      have t2 : decide ((12 : Int) < (s.size : Int)) = false := by simp; omega
      go_enter Tryz.func56, Tryz.ntmps56
      go_wp2_with fail
      go_loopw [] (fun wr => ∃ k : Nat, k ≤ s.size ∧ wr = w.iter s k ∧ Hid (∀ j, j < k → letAt s j = true)) (fun wr => s.size - wr.iterPos w.heap.size)
      case atStart => exact ⟨0, Nat.zero_le _, rfl, fun j hj => absurd hj (by omega)⟩
      case round =>
        obtain ⟨k, hk, rfl, hall⟩ := hrel
        by_cases hlt : k < s.size
        · have hnx := fun ty => run_next_any (P := Tryz.prog) w s k ty hlt
          obtain ⟨r1, r2⟩ := rune_let hlt
          obtain ⟨c, hc⟩ : ∃ c, (Utf8.decode s k).1 = c := ⟨_, rfl⟩
          obtain ⟨d, hd⟩ : ∃ d, (Utf8.decode s k).2 = d := ⟨_, rfl⟩
          rw [hc] at r1
          rw [hd] at r2
          simp only [hc, hd] at hnx
          clear hc hd
          cases hb : letAt s k
          · have E : Hid (lettersB s = false) := by
              unfold Hid lettersB
              simp only [Bool.and_eq_false_imp, decide_eq_false_iff_not]
              exact fun _ h => by rw [h k hlt] at hb; cases hb
            rw [hb] at r1
            go_wp2_with (go_at_call 78; refine (isLetter_any _ _).mono ?_; rintro e w' ⟨rfl, rfl⟩; rw [r1])
            go_ret
            exact ⟨ret_boolw E.out.symm, bl_alloc (Below.refl _ _) _, fun q => by rw [E.out] at q; cases q⟩
          · have hs' : Hid (∀ j, j < k + 1 → letAt s j = true) := by
              intro j hj
              by_cases h : j = k
              · subst h; exact hb
              · exact hall.out j (by omega)
            have hd1 := r2 hb
            rw [hd1] at hnx
            rw [hb] at r1
            clear r2 hd1
            go_wp2_with (go_at_call 78; refine (isLetter_any _ _).mono ?_; rintro e w' ⟨rfl, rfl⟩; rw [r1])
            go_roundw
            case rel => exact ⟨k + 1, by omega, rfl, hs'⟩
            case measure => simp; omega
        · have E : Hid (lettersB s = true) := by
            unfold Hid lettersB
            simp only [Bool.and_eq_true, decide_eq_true_eq]
            exact ⟨⟨h1, h2⟩, fun j hj => hall.out j (by omega)⟩
          have hnx := fun ty => run_next_end (P := Tryz.prog) w s k ty hlt
          go_wp2_with fail
          go_ret
          exact ⟨ret_boolw E.out.symm, bl_alloc (Below.refl _ _) _, fun _ => ⟨k, rfl⟩⟩
    · have t1 : decide ((s.size : Int) < 1) = false := by simp; omega
      have t2 : decide ((12 : Int) < (s.size : Int)) = true := by simp; omega
      have E : Hid (lettersB s = false) := by simp [Hid, lettersB, h2]
      go_enter Tryz.func56, Tryz.ntmps56
      go_wp2_with fail
      go_ret
      exact ⟨ret_boolw E.out.symm, Below.refl _ _, fun q => by rw [E.out] at q; cases q⟩
  · have t1 : decide ((s.size : Int) < 1) = true := by simp; omega
    have E : Hid (lettersB s = false) := by simp [Hid, lettersB, h1]
    go_enter Tryz.func56, Tryz.ntmps56
    go_wp2_with fail
    go_ret
    exact ⟨ret_boolw E.out.symm, Below.refl _ _, fun q => by rw [E.out] at q; cases q⟩
end Go.Proofs.YtknallkcengbbaaGreatDoor
