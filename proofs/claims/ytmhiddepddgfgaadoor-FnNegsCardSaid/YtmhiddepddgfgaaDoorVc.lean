import Derived.Test.YtmhiddepddgfgaaDoorFl
namespace Go.Proofs.YtmhiddepddgfgaaDoor
open Ieee
set_option linter.unusedVariables false

theorem read1024 : double.read 4652218415073722368 = .number false 4503599627370496 (-42) := by decide +kernel

theorem cut_even_le (neg : Bool) (n b c : Nat) (h : n < 2 ^ b * c) (hc : 0 < c) : Toward.even.cut neg n b ≤ c := by
  unfold Toward.cut
  simp only [Nat.shiftLeft_eq, Nat.one_mul]
  have hlow : n / 2 ^ min b (n.log2 + 2) < c := by
    by_cases hb : b ≤ n.log2 + 2
    · rw [Nat.min_eq_left hb]
      exact Nat.div_lt_of_lt_mul h
    · rw [Nat.min_eq_right (by omega)]
      have : n < 2 ^ (n.log2 + 2) := by
        by_cases hn : n = 0
        · subst hn; exact Nat.two_pow_pos _
        · have h1 := Nat.lt_log2_self (n := n)
          exact Nat.lt_of_lt_of_le h1 (Nat.pow_le_pow_right (by omega) (by omega))
      rw [Nat.div_eq_of_lt this]
      exact hc
  have hle : ∀ q : Bool, q.toNat ≤ 1 := by intro q; cases q <;> simp
  have := hle (decide (2 ^ min b (n.log2 + 2) < 2 * (n % 2 ^ min b (n.log2 + 2))) || (2 ^ min b (n.log2 + 2) == 2 * (n % 2 ^ min b (n.log2 + 2)) && n / 2 ^ min b (n.log2 + 2) % 2 == 1))
  omega

theorem cut_zero_le (neg : Bool) (n b : Nat) : Toward.zero.cut neg n b ≤ n := by
  unfold Toward.cut
  simp
  exact Nat.div_le_self _ _

/-- a word whose rung is low stands for a number whose whole part is an int. -/
theorem small_int (neg : Bool) (g : Nat) (hg : g ≤ 1074 * 4503599627370496) : ∃ n, floatToIntVal .f64 (double.word neg g) .i64 = some n := by
  have hw : double.word neg g % 9223372036854775808 = g := by
    unfold Format.word; rw [sw]; cases neg <;> simp <;> omega
  have hi : ∀ (s : Bool) (m : Nat) (p : Int), m < 9007199254740992 → p ≤ 0 → ∃ n, (match (Datum.number s m p).toInt .zero with | some n => if IntKind.i64.min ≤ n ∧ n ≤ IntKind.i64.max then some n else none | none => none) = some n := by
    intro s m p hm hp
    have hc := cut_zero_le s (m <<< p.toNat) (-p).toNat
    rw [show p.toNat = 0 by omega, Nat.shiftLeft_zero] at hc
    simp only [Datum.toInt, Datum.integral, show p.toNat = 0 by omega, Nat.shiftLeft_zero]
    generalize Toward.zero.cut s m (-p).toNat = q at hc
    refine ⟨signed s q 0, ?_⟩
    have e1 : IntKind.i64.min = -9223372036854775808 := by decide +kernel
    have e2 : IntKind.i64.max = 9223372036854775807 := by decide +kernel
    rw [e1, e2, if_pos]
    unfold signed
    simp only [Nat.shiftLeft_zero]
    cases s <;> simp <;> omega
  unfold floatToIntVal
  show ∃ n, (match (double.read (double.word neg g)).toInt .zero with | some n => if IntKind.i64.min ≤ n ∧ n ≤ IntKind.i64.max then some n else none | none => none) = some n
  rw [read_def, hw]
  by_cases h1 : g < 4503599627370496
  · rw [if_pos h1]
    exact hi _ _ _ (by omega) (by omega)
  · rw [if_neg h1, if_pos (by omega)]
    exact hi _ _ _ (by omega) (by omega)

theorem nearest_low (neg : Bool) (m k : Nat) (hm : m < 9007199254740992) (hk : k ≤ 1062) : ∃ g, double.nearest neg (m * 4503599627370496) (-1074 + (k : Int) + -42) = double.word neg g ∧ g ≤ 1074 * 4503599627370496 := by
  unfold Format.nearest
  by_cases h0 : m * 4503599627370496 = 0
  · rw [if_pos h0]; exact ⟨0, rfl, by omega⟩
  rw [if_neg h0]
  have hL1 : (m * 4503599627370496).log2 < 105 := (Nat.log2_lt h0).2 (by omega)
  have hL2 : 52 ≤ (m * 4503599627370496).log2 := (Nat.le_log2 h0).2 (by omega)
  have hlt := Nat.lt_log2_self (n := m * 4503599627370496)
  rw [lp, bn, ir, show (double.fractionBits : Int) = 52 from rfl]
  generalize hL : (m * 4503599627370496).log2 = L at hL1 hL2 hlt ⊢
  generalize hl : max (-1074 + (k : Int) + -42 + (L : Int) - 52) (-1074) = last
  have l1 : -1074 + (k : Int) + -42 + (L : Int) - 52 ≤ last := by omega
  have l2 : last ≤ -2 := by omega
  have l3 : -1074 ≤ last := by omega
  dsimp only
  rw [show (-1074 + (k : Int) + -42 - last).toNat = 0 by omega, Nat.shiftLeft_zero]
  obtain ⟨b, hb⟩ : ∃ b : Nat, (last - (-1074 + (k : Int) + -42)).toNat = b := ⟨_, rfl⟩
  rw [hb]
  have hkept : Toward.even.cut neg (m * 4503599627370496) b ≤ 9007199254740992 := by
    apply cut_even_le _ _ _ _ _ (by omega)
    have e : (9007199254740992 : Nat) = 2 ^ 53 := by decide
    rw [e, ← Nat.pow_add]
    exact Nat.lt_of_lt_of_le hlt (Nat.pow_le_pow_right (by omega) (by omega))
  refine ⟨_, rfl, ?_⟩
  have ht : (last - -1074).toNat ≤ 1072 := by clear hkept hlt hb hm h0 hL; omega
  generalize Toward.even.cut neg (m * 4503599627370496) b = kept at hkept
  generalize (last - -1074).toNat = t at ht
  clear hlt hb hm h0 hL hL1 hL2 l1 l2 l3 hl hk
  refine Nat.le_trans (Nat.min_le_left _ _) ?_
  omega

theorem mul1024 (x : Nat) (nx : nanB x = false) (hr : x % 9223372036854775808 < 4787326403894837248) : ∃ r n, floatBits .mul .f64 x 4652218415073722368 = some r ∧ floatToIntVal .f64 r .i64 = some n := by
  rcases form_of x nx with ⟨h1, _⟩ | ⟨m, k, hm, hk, hx, hk2, hd⟩
  · omega
  have hk3 : k ≤ 1062 := by omega
  show ∃ r n, ((double.read x).product (double.read 4652218415073722368)).map double.write = some r ∧ floatToIntVal .f64 r .i64 = some n
  rw [hd, read1024]
  obtain ⟨g, hg1, hg2⟩ := nearest_low ((x / 9223372036854775808 % 2 == 1) ^^ false) m k hm hk3
  obtain ⟨n, hn⟩ := small_int ((x / 9223372036854775808 % 2 == 1) ^^ false) g hg2
  exact ⟨_, n, rfl, by rw [← hn, ← hg1]; rfl⟩
end Go.Proofs.YtmhiddepddgfgaaDoor
