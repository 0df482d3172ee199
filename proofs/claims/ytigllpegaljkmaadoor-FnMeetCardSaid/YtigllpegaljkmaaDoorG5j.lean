import Derived.Test.YtigllpegaljkmaaDoorG2j
import Derived.ChangeKeysEq
namespace Go.Proofs.YtigllpegaljkmaaDoor
open Go.RowKit
set_option linter.unusedVariables false

/-- a set of numbers below 16 as a word. -/
def bwN (f : Nat → Bool) : Nat → BitVec 16
  | 0 => 0
  | n + 1 => if f n then bwN f n ||| (1#16) <<< n else bwN f n
def bw (f : Nat → Bool) : BitVec 16 := bwN f 16
theorem bit16 (n i : Nat) (hi : i < 16) : ((1#16) <<< n).getLsbD i = decide (i = n) := by
  simp only [BitVec.getLsbD_shiftLeft, BitVec.getLsbD_one]
  by_cases h : i = n
  · subst h; simp [hi]
  · simp [h, hi]; omega
theorem bwN_bit (f : Nat → Bool) (i : Nat) (hi : i < 16) : ∀ n, (bwN f n).getLsbD i = (decide (i < n) && f i)
  | 0 => by simp [bwN]
  | n + 1 => by
    have ih := bwN_bit f i hi n
    unfold bwN
    split
    · rename_i hf
      rw [BitVec.getLsbD_or, ih, bit16 _ _ hi]
      by_cases e : i = n
      · subst e; simp [hf]
      · have : decide (i < n + 1) = decide (i < n) := by simp; omega
        simp [e, this]
    · rename_i hf
      rw [ih]
      by_cases e : i = n
      · subst e; simp [hf]
      · have : decide (i < n + 1) = decide (i < n) := by simp; omega
        rw [this]
theorem bw_bit (f : Nat → Bool) (i : Nat) (hi : i < 16) : (bw f).getLsbD i = f i := by
  unfold bw; rw [bwN_bit f i hi 16]; simp [hi]
theorem bw_ext {x : BitVec 16} {f : Nat → Bool} (h : ∀ i, i < 16 → x.getLsbD i = f i) : x = bw f := by
  apply BitVec.eq_of_getLsbD_eq
  intro i hi
  rw [h i hi, bw_bit f i hi]
theorem bw_congr {f g : Nat → Bool} (h : ∀ i, i < 16 → f i = g i) : bw f = bw g := bw_ext fun i hi => by rw [bw_bit f i hi, h i hi]
def nb (f : Nat → Bool) : Int := ((bw f).toNat : Int)
theorem nb_congr {f g : Nat → Bool} (h : ∀ i, i < 16 → f i = g i) : nb f = nb g := by unfold nb; rw [bw_congr h]
theorem nb_inj {f g : Nat → Bool} (h : nb f = nb g) : ∀ i, i < 16 → f i = g i := by
  intro i hi
  have : bw f = bw g := BitVec.eq_of_toNat_eq (by unfold nb at h; omega)
  rw [← bw_bit f i hi, this, bw_bit g i hi]
theorem nb_zero : nb (fun _ => false) = 0 := by
  have : bw (fun _ => false) = 0#16 := (bw_ext (fun i hi => by simp)).symm
  unfold nb; rw [this]; rfl
theorem nb_is_zero (f : Nat → Bool) : (nb f == 0) = (List.range 16).all fun i => !f i := by
  rw [Bool.eq_iff_iff, beq_iff_eq, List.all_eq_true]
  constructor
  · intro h i hi
    rw [← nb_zero] at h
    have := nb_inj h i (by simpa using hi)
    simp [this]
  · intro h
    rw [← nb_zero]
    exact nb_congr fun i hi => by simpa using h i (by simpa using hi)
theorem nb_nonneg (f : Nat → Bool) : 0 ≤ nb f ∧ nb f < 65536 := by
  unfold nb; have := (bw f).isLt; omega

theorem wrap16 (n : Nat) (h : n < 65536) : IntKind.u16.wrap (n : Int) = (n : Int) := by
  simp [IntKind.wrap, IntKind.signed, IntKind.bits]; omega
theorem ofn16 (a : BitVec 16) : BitVec.ofInt 16 (a.toNat : Int) = a := by simp
theorem or16 (f g : Nat → Bool) : bits .or .u16 (nb f) (nb g) = nb (fun i => f i || g i) := by
  show IntKind.u16.wrap ((BitVec.ofInt 16 ((bw f).toNat : Int) ||| BitVec.ofInt 16 ((bw g).toNat : Int)).toNat : Nat) = _
  rw [ofn16, ofn16, wrap16 _ (bw f ||| bw g).isLt]
  unfold nb
  rw [bw_ext (x := bw f ||| bw g) (f := fun i => f i || g i) (fun i hi => by rw [BitVec.getLsbD_or, bw_bit f i hi, bw_bit g i hi])]
theorem and16 (f g : Nat → Bool) : bits .and .u16 (nb f) (nb g) = nb (fun i => f i && g i) := by
  show IntKind.u16.wrap ((BitVec.ofInt 16 ((bw f).toNat : Int) &&& BitVec.ofInt 16 ((bw g).toNat : Int)).toNat : Nat) = _
  rw [ofn16, ofn16, wrap16 _ (bw f &&& bw g).isLt]
  unfold nb
  rw [bw_ext (x := bw f &&& bw g) (f := fun i => f i && g i) (fun i hi => by rw [BitVec.getLsbD_and, bw_bit f i hi, bw_bit g i hi])]
theorem andNot16 (f g : Nat → Bool) : bits .andNot .u16 (nb f) (nb g) = nb (fun i => f i && !g i) := by
  show IntKind.u16.wrap ((BitVec.ofInt 16 ((bw f).toNat : Int) &&& ~~~ BitVec.ofInt 16 ((bw g).toNat : Int)).toNat : Nat) = _
  rw [ofn16, ofn16, wrap16 _ (bw f &&& ~~~ bw g).isLt]
  unfold nb
  rw [bw_ext (x := bw f &&& ~~~ bw g) (f := fun i => f i && !g i) (fun i hi => by rw [BitVec.getLsbD_and, BitVec.getLsbD_not, bw_bit f i hi, bw_bit g i hi]; simp [hi])]

theorem bit_is (q : Nat) (hq : q < 16) : IntKind.u16.wrap (2 ^ q) = nb fun j => decide (j = q) := by
  have e : ((1#16) <<< q).toNat = 2 ^ q := by
    rw [BitVec.toNat_shiftLeft, Nat.shiftLeft_eq]
    simp
    exact Nat.pow_lt_pow_right (n := 16) (by omega) hq
  have g := wrap16 (2 ^ q) (Nat.pow_lt_pow_right (n := 16) (by omega) hq)
  have h : nb (fun j => decide (j = q)) = ((2 ^ q : Nat) : Int) := by
    unfold nb
    rw [← bw_ext (x := (1#16) <<< q) (f := fun j => decide (j = q)) (fun i hi => bit16 q i hi), e]
  rw [h, ← g]; simp
theorem has_is (f : Nat → Bool) (q : Nat) (hq : q < 16) : (bits BinOp.and IntKind.u16 (nb f / 2 ^ q) 1 == 1) = f q := by
  have e : nb f / 2 ^ q = (((bw f) >>> q).toNat : Int) := by
    unfold nb
    rw [BitVec.toNat_ushiftRight, Nat.shiftRight_eq_div_pow]
    simp
  have o : (1 : Int) = ((1#16).toNat : Int) := rfl
  have a : bits BinOp.and IntKind.u16 (nb f / 2 ^ q) 1 = (((bw f >>> q) &&& 1#16).toNat : Int) := by
    rw [e]
    conv => lhs; rw [o]
    show IntKind.u16.wrap ((BitVec.ofInt 16 ((bw f >>> q).toNat : Int) &&& BitVec.ofInt 16 ((1#16).toNat : Int)).toNat : Nat) = _
    rw [ofn16, ofn16, wrap16 _ (bw f >>> q &&& 1#16).isLt]
  have b : (bw f >>> q) &&& 1#16 = if f q then 1#16 else 0#16 := by
    apply BitVec.eq_of_getLsbD_eq
    intro i hi
    rw [BitVec.getLsbD_and, BitVec.getLsbD_ushiftRight, BitVec.getLsbD_one]
    by_cases h0 : i = 0
    · subst h0
      rw [Nat.add_zero, bw_bit f q hq]
      cases f q <;> simp
    · cases f q <;> simp [h0]
  rw [a, b]
  cases f q <;> simp

set_option maxHeartbeats 1000000 in
theorem bitOf_any (q : Nat) (w : World) (hq : q < 16) :
    Calls Tryd.prog 21 #[.int .i64 q] w fun e w' => e = .returned (.int .u16 (nb fun j => decide (j = q))) ∧ w' = w := by
  go_enter Tryd.func21, Tryd.ntmps21
  go_wp2
  go_ret
  exact ⟨by rw [← bit_is q hq]; rfl, rfl⟩

set_option maxHeartbeats 1000000 in
theorem has_any (f : Nat → Bool) (q : Nat) (w : World) (hq : q < 16) :
    Calls Tryd.prog 45 #[.int .u16 (nb f), .int .i64 q] w fun e w' => e = .returned (.bool (f q)) ∧ w' = w := by
  go_enter Tryd.func45, Tryd.ntmps45
  go_wp2
  go_ret
  exact ⟨by rw [← has_is f q hq]; rfl, rfl⟩
end Go.Proofs.YtigllpegaljkmaaDoor
