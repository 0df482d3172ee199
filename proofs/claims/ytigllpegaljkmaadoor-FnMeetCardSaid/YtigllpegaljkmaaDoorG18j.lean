import Derived.Test.YtigllpegaljkmaaDoorG17j
import Derived.Lib.TrailingZeros
import Derived.Laws.Bits64b
namespace Go.Proofs.YtigllpegaljkmaaDoor
open Go.RowKit
set_option linter.unusedVariables false
set_option linter.unusedSimpArgs false

/-- the library's table, as its initialiser lays it. -/
def DbT (w : World) : Prop := ∀ j, j < 32 → w.cell? ⟨0, j, none⟩ = some (.int .u8 (Lib.deBruijn32tab.getD j 0))
theorem DbT.later {w w' : World} (h : DbT w) (hb : Below w.heap.size w w') : DbT w' := fun j hj =>
  (hb.cell (p := ⟨0, j, none⟩) (World.block_lt_of_cell? _ _ (h j hj))).trans (h j hj)
/-- q is the least number of the set. -/
def Least (f : Nat → Bool) (q : Nat) : Prop := q < 16 ∧ f q = true ∧ ∀ i, i < q → f i = false
theorem least_ctz {f : Nat → Bool} {q : Nat} (h : Least f q) : Lib.ctz 16 (bw f).toNat = q := by
  obtain ⟨h1, h2, h3⟩ := h
  have hx0 : (bw f).toNat ≠ 0 := by
    intro e
    have : bw f = 0#16 := BitVec.eq_of_toNat_eq (by simpa using e)
    have b := bw_bit f q h1
    rw [this, h2] at b
    simp at b
  obtain ⟨m, hm, hk⟩ := Lib.ctzFrom_spec 16 (bw f).toNat (by omega) (bw f).isLt
  have hc : Lib.ctz 16 (bw f).toNat = Lib.ctzFrom 16 (bw f).toNat := by simp [Lib.ctz, hx0]
  rw [hc]
  generalize Lib.ctzFrom 16 (bw f).toNat = k at hm hk
  have hb : ∀ i, i < 16 → f i = (decide (i ≥ k) && (2 * m + 1).testBit (i - k)) := by
    intro i hi
    rw [← bw_bit f i hi]
    show (bw f).toNat.testBit i = _
    rw [hm, Nat.testBit_two_pow_mul]
  have a := hb q h1
  rw [h2] at a
  have kq : k ≤ q := by
    by_cases e : k ≤ q
    · exact e
    · simp [e] at a
  by_cases e : k = q
  · exact e
  · have b := hb k (by omega)
    rw [h3 k (by omega)] at b
    simp at b

set_option maxHeartbeats 1000000 in
theorem tz16_any (f : Nat → Bool) (q : Nat) (w : World) (hq : Least f q) (hT : DbT w) :
    Calls Tryd.prog 46 #[.int .u16 (nb f)] w fun e w' => e = .returned (.int .i64 q) ∧ w' = w := by
  have hlow : bits BinOp.and IntKind.u16 (nb f) (IntKind.u16.wrap (-(nb f))) = ((2 ^ q : Nat) : Int) := by
    have hx0 : (bw f).toNat ≠ 0 := by
      intro e
      have : bw f = 0#16 := BitVec.eq_of_toNat_eq (by simpa using e)
      have b := bw_bit f q hq.1
      rw [this, hq.2.1] at b
      simp at b
    have := (Lib.lowest_bit 16 (bw f).toNat hx0 (bw f).isLt).1
    rw [least_ctz hq] at this
    have hlt := (bw f).isLt
    have e1 : IntKind.u16.wrap (-(nb f)) = ((65536 - (bw f).toNat : Nat) : Int) := by
      unfold nb
      simp [IntKind.wrap, IntKind.signed, IntKind.bits]; omega
    rw [e1]
    show IntKind.u16.wrap ((BitVec.ofInt 16 ((bw f).toNat : Int) &&& BitVec.ofInt 16 ((65536 - (bw f).toNat : Nat) : Int)).toNat : Nat) = _
    rw [ofn16, BitVec.ofInt_natCast, BitVec.toNat_and, BitVec.toNat_ofNat, Nat.mod_eq_of_lt (by omega)]
    rw [show (2 : Nat) ^ 16 = 65536 from rfl] at this
    rw [this]
    exact wrap16 _ (Nat.pow_lt_pow_right (n := 16) (by omega) hq.1)
  have h0 : (nb f == 0) = false := by
    rw [nb_is_zero]
    rw [List.all_eq_false]
    exact ⟨q, by simpa using hq.1, by simp [hq.2.1]⟩
  obtain ⟨hi, htab⟩ := Lib.deBruijn32_at q (by have := hq.1; omega)
  have hc := hT _ hi
  rw [htab] at hc
  have hq16 := hq.1
  obtain ⟨ix, hix⟩ : ∃ ix : Nat, Hid (2 ^ q * 125613361 % 4294967296 / 134217728 = ix) := ⟨_, rfl⟩
  rw [hix.out] at hi hc
  have key : ((2 ^ q : Nat) : Int) * 125613361 % 4294967296 / 134217728 = (ix : Int) := by rw [← hix.out]; omega
  obtain ⟨P, hP⟩ : ∃ P : Nat, Hid (P = 2 ^ q) := ⟨_, rfl⟩
  rw [← hP.out] at hlow key
  have hP16 : P < 65536 := by rw [hP.out]; exact Nat.pow_lt_pow_right (n := 16) (by omega) hq.1
  clear hT htab hq
  go_enter Tryd.func46, Tryd.ntmps46
  go_wp2_with (simp only [key])
  go_ret
  exact ⟨rfl, rfl⟩

set_option maxHeartbeats 1000000 in
theorem least_any (f : Nat → Bool) (q : Nat) (w : World) (hq : Least f q) (hT : DbT w) :
    Calls Tryd.prog 44 #[.int .u16 (nb f)] w fun e w' => e = .returned (.int .i64 q) ∧ w' = w := by
  go_enter Tryd.func44, Tryd.ntmps44
  go_wp2_with (go_at_call 46; refine (tz16_any f q _ hq hT).mono ?_; rintro e w' ⟨rfl, hq⟩; subst hq)
  go_ret
  exact ⟨rfl, rfl⟩
end Go.Proofs.YtigllpegaljkmaaDoor
