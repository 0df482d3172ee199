import Derived.Test.YtknallkcengbbaaGreatDoorXb
namespace Go.Proofs.YtknallkcengbbaaGreatDoor
open Go.RowKit
set_option linter.unusedVariables false
set_option linter.unusedSimpArgs false

set_option maxHeartbeats 1000000 in
theorem l1In_any (x lo hi : Int) (w : World) :
    Calls Tryz.prog 47 #[.int .i64 x, .int .i64 lo, .int .i64 hi] w fun e w' => e = .returned (.bool (decide (lo ≤ x) && decide (x ≤ hi))) ∧ w' = w := by
  by_cases h1 : lo ≤ x
  · go_enter Tryz.func47, Tryz.ntmps47
    go_wp2
    go_ret
    exact ⟨ret_bool (by simp [h1]), rfl⟩
  · go_enter Tryz.func47, Tryz.ntmps47
    go_wp2
    go_ret
    exact ⟨ret_bool (by simp; omega), rfl⟩

/-- the floats of 1, 10 .. 1000000. -/
def tenF : Nat → Nat
  | 0 => 4607182418800017408
  | 1 => 4621819117588971520
  | 2 => 4636737291354636288
  | 3 => 4652007308841189376
  | 4 => 4666723172467343360
  | 5 => 4681608360884174848
  | 6 => 4696837146684686336
  | _ => 0
theorem tenF_step {k : Nat} (h : k < 6) : floatBits .mul .f64 (tenF k) 4621819117588971520 = some (tenF (k + 1)) := by
  match k, h with
  | 0, _ => decide +kernel
  | 1, _ => decide +kernel
  | 2, _ => decide +kernel
  | 3, _ => decide +kernel
  | 4, _ => decide +kernel
  | 5, _ => decide +kernel
theorem tenF_int {k : Nat} (h : k ≤ 6) : floatOfInt .f64 ((10 ^ k : Nat) : Int) = tenF k := by
  match k, h with
  | 0, _ => decide +kernel
  | 1, _ => decide +kernel
  | 2, _ => decide +kernel
  | 3, _ => decide +kernel
  | 4, _ => decide +kernel
  | 5, _ => decide +kernel
  | 6, _ => decide +kernel
theorem tenF_range {k : Nat} (h : k ≤ 6) : 4503599627370496 ≤ tenF k % 9223372036854775808 ∧ tenF k % 9223372036854775808 < 9218868437227405312 := by
  match k, h with
  | 0, _ => decide +kernel
  | 1, _ => decide +kernel
  | 2, _ => decide +kernel
  | 3, _ => decide +kernel
  | 4, _ => decide +kernel
  | 5, _ => decide +kernel
  | 6, _ => decide +kernel
theorem quo_some {x y : Nat} (hx : nanB x = false) (h1 : 4503599627370496 ≤ y % 9223372036854775808) (h2 : y % 9223372036854775808 < 9218868437227405312) : ∃ r, floatBits .quo .f64 x y = some r := by
  show ∃ r, Ieee.double.div x y = some r
  unfold Ieee.Format.div
  have e : Ieee.double.read y = .number (y / 9223372036854775808 % 2 == 1) (4503599627370496 + y % 9223372036854775808 % 4503599627370496) (-1074 + (y % 9223372036854775808 / 4503599627370496 - 1 : Nat)) := by rw [read_def, if_neg (by omega), if_pos h2]
  rw [e]
  rcases form_of x hx with ⟨_, h⟩ | ⟨m, k, _, _, _, _, h⟩
  · rw [h]; exact ⟨_, rfl⟩
  · rw [h]
    simp only [Ieee.Datum.quotient]
    rw [if_neg (by omega)]
    exact ⟨_, rfl⟩
/-- the float of a whole number is no NaN. -/
theorem ofInt_num (n : Int) : nanB (floatOfInt .f64 n) = false := by
  rw [nanB_def, decide_eq_false_iff_not]
  have h : ∃ neg r, floatOfInt .f64 n = Ieee.double.word neg r ∧ r ≤ 9218868437227405312 := by
    unfold floatOfInt FloatKind.nearest FloatKind.encode
    show ∃ neg r, Ieee.Format.write Ieee.double _ = _ ∧ _
    unfold Ieee.Format.write Ieee.Format.nearest
    dsimp only
    split
    · exact ⟨_, 0, rfl, by omega⟩
    · refine ⟨_, _, rfl, ?_⟩
      have := ir
      rw [← ir]
      exact Nat.min_le_right _ _
  obtain ⟨neg, r, e, hr⟩ := h
  rw [e]
  unfold Ieee.Format.word
  rw [sw]
  split <;> omega
theorem ofInt_quo (n : Int) {k : Nat} (h : k ≤ 6) : ∃ r, floatBits .quo .f64 (floatOfInt .f64 n) (tenF k) = some r ∧ r < 18446744073709551616 := by
  obtain ⟨r, hr⟩ := quo_some (ofInt_num n) (tenF_range h).1 (tenF_range h).2
  have := floatBits_wf hr
  simp [Lit.wf] at this
  exact ⟨r, hr, this⟩

/-- a real number's text: a digits, a point, k digits. -/
structure RealAt (s : ByteArray) (a k : Nat) : Prop where
  size : s.size = a + 1 + k
  a1 : 1 ≤ a
  a9 : a ≤ 9
  k1 : 1 ≤ k
  k6 : k ≤ 6
  pt : byA s a = 46
  fst : ∀ j, j < a → dgAt s j = true
  snd : ∀ j, a < j → j < s.size → dgAt s j = true
  nz : a = 1 ∨ ¬ byA s 0 = 48
theorem pt_dg {s : ByteArray} {j : Nat} (h : byA s j = 46) : dgAt s j = false := by
  show dgB (byA s j) = false
  rw [h]; decide
theorem RealAt.run {s : ByteArray} {a k b : Nat} (h : RealAt s a k) (hr : RunIs s 0 b) : b = a := by
  obtain ⟨r1, r2, r3, r4⟩ := hr
  have h1 := h.size
  by_cases h2 : b < a
  · have := h.fst b h2
    rw [r4 (by omega)] at this; cases this
  · by_cases h3 : a < b
    · have := r3 a (by omega) h3
      rw [pt_dg h.pt] at this; cases this
    · omega
theorem RealAt.run2 {s : ByteArray} {a k b : Nat} (h : RealAt s a k) (hr : RunIs s (a + 1) b) : b = s.size := by
  obtain ⟨r1, r2, r3, r4⟩ := hr
  by_cases h2 : b < s.size
  · have := h.snd b (by omega) h2
    rw [r4 h2] at this; cases this
  · omega
theorem RealAt.one {s : ByteArray} {a k b l : Nat} (h : RealAt s a k) (g : RealAt s b l) : a = b ∧ k = l := by
  have hr : RunIs s 0 a := ⟨Nat.zero_le _, by have := h.size; omega, fun j _ hj => h.fst j hj, fun _ => pt_dg h.pt⟩
  have := g.run hr
  have h1 := h.size
  have h2 := g.size
  omega
/-- what both answer: no real number's text; or its number. -/
def RealSays (s : ByteArray) (e : Ending) : Prop :=
  ((¬ ∃ a k, RealAt s a k) ∧ e = .returned (.tuple #[.float .f64 0, .bool false])) ∨
  ∃ a k n r, RealAt s a k ∧ Lib.decFrom 0 (s.data.toList.take a ++ s.data.toList.drop (a + 1)) = some n ∧ floatBits .quo .f64 (floatOfInt .f64 (n : Int)) (tenF k) = some r ∧ r < 18446744073709551616 ∧ e = .returned (.tuple #[.float .f64 r, .bool true])
theorem RealSays.same {s : ByteArray} {e f : Ending} (h : RealSays s e) (g : RealSays s f) : e = f ∧ ∃ r b, e = .returned (.tuple #[.float .f64 r, .bool b]) ∧ r < 18446744073709551616 := by
  rcases h with ⟨h1, h2⟩ | ⟨a, k, n, r, h1, h2, h3, h4, h5⟩
  · rcases g with ⟨g1, g2⟩ | ⟨a, k, n, r, g1, g2, g3, g4, g5⟩
    · exact ⟨h2.trans g2.symm, 0, false, h2, by omega⟩
    · exact absurd ⟨a, k, g1⟩ h1
  · rcases g with ⟨g1, g2⟩ | ⟨b, l, m, t, g1, g2, g3, g4, g5⟩
    · exact absurd ⟨a, k, h1⟩ g1
    · obtain ⟨rfl, rfl⟩ := h1.one g1
      rw [h2] at g2
      obtain rfl : n = m := Option.some.inj g2
      rw [h3] at g3
      obtain rfl : r = t := Option.some.inj g3
      exact ⟨h5.trans g5.symm, r, true, h5, h4⟩
theorem decFrom_append : ∀ (l m : List UInt8) (acc n : Nat), Lib.decFrom acc l = some n → Lib.decFrom acc (l ++ m) = Lib.decFrom n m
  | [], m, acc, n, h => by simp [Lib.decFrom] at h; subst h; rfl
  | b :: l, m, acc, n, h => by
    simp only [Lib.decFrom, List.cons_append] at h ⊢
    cases hd : Lib.digitVal b with
    | none => rw [hd] at h; cases h
    | some d =>
      rw [hd] at h
      exact decFrom_append l m _ n h
theorem decFrom_shift : ∀ (l : List UInt8) (acc n : Nat), Lib.decFrom 0 l = some n → Lib.decFrom acc l = some (acc * 10 ^ l.length + n) := by
  suffices H : ∀ (l : List UInt8) (a b n : Nat), Lib.decFrom b l = some n → Lib.decFrom (a + b) l = some (a * 10 ^ l.length + n) from fun l acc n h => by simpa using H l acc 0 n h
  intro l
  induction l with
  | nil => intro a b n h; simp [Lib.decFrom] at h ⊢; omega
  | cons c l ih =>
    intro a b n h
    simp only [Lib.decFrom] at h ⊢
    cases hd : Lib.digitVal c with
    | none => rw [hd] at h; cases h
    | some d =>
      rw [hd] at h
      simp only at h ⊢
      have := ih (a * 10) (b * 10 + d) n h
      rw [show (a + b) * 10 + d = a * 10 + (b * 10 + d) by omega, this, List.length_cons, Nat.pow_succ]
      congr 1
      rw [Nat.mul_assoc, Nat.mul_comm 10]
end Go.Proofs.YtknallkcengbbaaGreatDoor
