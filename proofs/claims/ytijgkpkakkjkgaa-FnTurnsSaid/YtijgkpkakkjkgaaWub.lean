import Derived.Test.YtijgkpkakkjkgaaWx
namespace Go.Proofs.Ytijgkpkakkjkgaa
open Go.RowKit
open Ieee

/-- a word that is a number: no infinity, no NaN. -/
def numB (x : Nat) : Bool := match double.read x with | .number _ _ _ => true | _ => false

theorem word_fine (b : Bool) {r : Nat} (h : r ≤ 9218868437227405312) : nanB (double.word b r) = false := by
  rw [nanB_def, decide_eq_false_iff_not]
  unfold Format.word
  rw [sw]
  cases b
  · simp only [Bool.false_eq_true, if_false]; omega
  · simp only [if_true]; omega

theorem nearest_fine (b : Bool) (m : Nat) (p : Int) : nanB (double.nearest b m p) = false := by
  unfold Format.nearest
  split
  · exact word_fine b (by omega)
  · exact word_fine b (by rw [ir]; exact Nat.min_le_right _ _)

theorem add_num {p q : Nat} (hp : numB p = true) (hq : numB q = true) : ∃ r, floatBits .add .f64 p q = some r ∧ nanB r = false := by
  unfold numB at hp hq
  have e : floatBits .add .f64 p q = ((double.read p).sum (double.read q)).map double.write := rfl
  cases h1 : double.read p with
  | infinity _ => rw [h1] at hp; cases hp
  | nan _ _ => rw [h1] at hp; cases hp
  | number s m i =>
    cases h2 : double.read q with
    | infinity _ => rw [h2] at hq; cases hq
    | nan _ _ => rw [h2] at hq; cases hq
    | number t n j =>
      rw [e, h1, h2]
      exact ⟨_, rfl, nearest_fine _ _ _⟩

def one : Nat := 4607182418800017408
def N0 : Nat := 9223372036854775808

def sqB (x : Nat) : Bool := match floatBits .mul .f64 x x with | some p => numB p | none => false

def xOk (x : Nat) : Bool :=
  floatBits .mul .f64 x 4607182418800017408 == some x && floatBits .mul .f64 (negF x) 4607182418800017408 == some (negF x)
  && (floatBits .mul .f64 x 0 == some 0 || floatBits .mul .f64 x 0 == some 9223372036854775808) && (floatBits .mul .f64 (negF x) 0 == some 0 || floatBits .mul .f64 (negF x) 0 == some 9223372036854775808)
  && floatBits .sub .f64 9223372036854775808 x == some (negF x) && floatBits .sub .f64 0 (negF x) == some x && floatBits .add .f64 x 0 == some x && floatBits .add .f64 (negF x) 9223372036854775808 == some (negF x)
  && floatBits .mul .f64 (negF x) (negF x) == floatBits .mul .f64 x x && sqB x && !nanB x && !nanB (negF x)
def yOk (y : Nat) : Bool :=
  floatBits .mul .f64 y 4607182418800017408 == some y && floatBits .mul .f64 (negF y) 4607182418800017408 == some (negF y) && floatBits .mul .f64 y 0 == some 0 && floatBits .mul .f64 (negF y) 0 == some 9223372036854775808
  && floatBits .sub .f64 0 y == some (negF y) && floatBits .sub .f64 9223372036854775808 y == some (negF y) && floatBits .add .f64 (negF y) 0 == some (negF y) && floatBits .add .f64 (negF y) 9223372036854775808 == some (negF y)
  && floatBits .sub .f64 0 (negF y) == some y && floatBits .sub .f64 9223372036854775808 (negF y) == some y && floatBits .add .f64 y 0 == some y && floatBits .add .f64 y 9223372036854775808 == some y
  && floatBits .mul .f64 (negF y) (negF y) == floatBits .mul .f64 y y && sqB y && !nanB y && !nanB (negF y)

theorem xs_ok0 : ((List.range 32).all fun i => xOk (floatOfInt .f64 ((i : Int) + (-100)))) = true := by decide +kernel
theorem xs_ok1 : ((List.range 32).all fun i => xOk (floatOfInt .f64 ((i : Int) + (-68)))) = true := by decide +kernel
theorem xs_ok2 : ((List.range 32).all fun i => xOk (floatOfInt .f64 ((i : Int) + (-36)))) = true := by decide +kernel
theorem xs_ok3 : ((List.range 32).all fun i => xOk (floatOfInt .f64 ((i : Int) + (-4)))) = true := by decide +kernel
theorem xs_ok4 : ((List.range 32).all fun i => xOk (floatOfInt .f64 ((i : Int) + (28)))) = true := by decide +kernel
theorem xs_ok5 : ((List.range 32).all fun i => xOk (floatOfInt .f64 ((i : Int) + (60)))) = true := by decide +kernel
theorem xs_ok6 : ((List.range 32).all fun i => xOk (floatOfInt .f64 ((i : Int) + (92)))) = true := by decide +kernel
theorem xs_ok7 : ((List.range 32).all fun i => xOk (floatOfInt .f64 ((i : Int) + (124)))) = true := by decide +kernel
theorem ys_ok0 : ((List.range 32).all fun i => yOk (floatOfInt .f64 ((i : Int) + 1))) = true := by decide +kernel
theorem ys_ok1 : ((List.range 32).all fun i => yOk (floatOfInt .f64 ((i : Int) + 33))) = true := by decide +kernel
theorem ys_ok2 : ((List.range 32).all fun i => yOk (floatOfInt .f64 ((i : Int) + 65))) = true := by decide +kernel
theorem ys_ok3 : ((List.range 32).all fun i => yOk (floatOfInt .f64 ((i : Int) + 97))) = true := by decide +kernel
theorem ys_ok4 : ((List.range 32).all fun i => yOk (floatOfInt .f64 ((i : Int) + 129))) = true := by decide +kernel
theorem ys_ok5 : ((List.range 32).all fun i => yOk (floatOfInt .f64 ((i : Int) + 161))) = true := by decide +kernel
theorem ys_ok6 : ((List.range 32).all fun i => yOk (floatOfInt .f64 ((i : Int) + 193))) = true := by decide +kernel
theorem ys_ok7 : ((List.range 32).all fun i => yOk (floatOfInt .f64 ((i : Int) + 225))) = true := by decide +kernel
theorem x_ok {r : Int} (h1 : 0 ≤ r) (h2 : r ≤ 255) : xOk (floatOfInt .f64 (r - 100)) = true := by
  obtain ⟨n, rfl⟩ : ∃ n : Nat, r = (n : Int) := ⟨r.toNat, by omega⟩
  have hn : n / 32 = 0 ∨ n / 32 = 1 ∨ n / 32 = 2 ∨ n / 32 = 3 ∨ n / 32 = 4 ∨ n / 32 = 5 ∨ n / 32 = 6 ∨ n / 32 = 7 := by omega
  rcases hn with h | h | h | h | h | h | h | h
  · have := List.all_eq_true.1 xs_ok0 (n - 0) (by simp; omega)
    rwa [show ((n - 0 : Nat) : Int) + (-100) = (n : Int) - 100 by omega] at this
  · have := List.all_eq_true.1 xs_ok1 (n - 32) (by simp; omega)
    rwa [show ((n - 32 : Nat) : Int) + (-68) = (n : Int) - 100 by omega] at this
  · have := List.all_eq_true.1 xs_ok2 (n - 64) (by simp; omega)
    rwa [show ((n - 64 : Nat) : Int) + (-36) = (n : Int) - 100 by omega] at this
  · have := List.all_eq_true.1 xs_ok3 (n - 96) (by simp; omega)
    rwa [show ((n - 96 : Nat) : Int) + (-4) = (n : Int) - 100 by omega] at this
  · have := List.all_eq_true.1 xs_ok4 (n - 128) (by simp; omega)
    rwa [show ((n - 128 : Nat) : Int) + (28) = (n : Int) - 100 by omega] at this
  · have := List.all_eq_true.1 xs_ok5 (n - 160) (by simp; omega)
    rwa [show ((n - 160 : Nat) : Int) + (60) = (n : Int) - 100 by omega] at this
  · have := List.all_eq_true.1 xs_ok6 (n - 192) (by simp; omega)
    rwa [show ((n - 192 : Nat) : Int) + (92) = (n : Int) - 100 by omega] at this
  · have := List.all_eq_true.1 xs_ok7 (n - 224) (by simp; omega)
    rwa [show ((n - 224 : Nat) : Int) + (124) = (n : Int) - 100 by omega] at this
theorem y_ok {r : Int} (h1 : 0 ≤ r) (h2 : r ≤ 255) : yOk (floatOfInt .f64 (r + 1)) = true := by
  obtain ⟨n, rfl⟩ : ∃ n : Nat, r = (n : Int) := ⟨r.toNat, by omega⟩
  have hn : n / 32 = 0 ∨ n / 32 = 1 ∨ n / 32 = 2 ∨ n / 32 = 3 ∨ n / 32 = 4 ∨ n / 32 = 5 ∨ n / 32 = 6 ∨ n / 32 = 7 := by omega
  rcases hn with h | h | h | h | h | h | h | h
  · have := List.all_eq_true.1 ys_ok0 (n - 0) (by simp; omega)
    rwa [show ((n - 0 : Nat) : Int) + (1) = (n : Int) + 1 by omega] at this
  · have := List.all_eq_true.1 ys_ok1 (n - 32) (by simp; omega)
    rwa [show ((n - 32 : Nat) : Int) + (33) = (n : Int) + 1 by omega] at this
  · have := List.all_eq_true.1 ys_ok2 (n - 64) (by simp; omega)
    rwa [show ((n - 64 : Nat) : Int) + (65) = (n : Int) + 1 by omega] at this
  · have := List.all_eq_true.1 ys_ok3 (n - 96) (by simp; omega)
    rwa [show ((n - 96 : Nat) : Int) + (97) = (n : Int) + 1 by omega] at this
  · have := List.all_eq_true.1 ys_ok4 (n - 128) (by simp; omega)
    rwa [show ((n - 128 : Nat) : Int) + (129) = (n : Int) + 1 by omega] at this
  · have := List.all_eq_true.1 ys_ok5 (n - 160) (by simp; omega)
    rwa [show ((n - 160 : Nat) : Int) + (161) = (n : Int) + 1 by omega] at this
  · have := List.all_eq_true.1 ys_ok6 (n - 192) (by simp; omega)
    rwa [show ((n - 192 : Nat) : Int) + (193) = (n : Int) + 1 by omega] at this
  · have := List.all_eq_true.1 ys_ok7 (n - 224) (by simp; omega)
    rwa [show ((n - 224 : Nat) : Int) + (225) = (n : Int) + 1 by omega] at this

/-- what a quarter turn makes of a pair, and its size. -/
def Step (a b c d : Nat) : Prop := mulRe a b 0 4607182418800017408 = some c ∧ mulIm a b 0 4607182418800017408 = some d

theorem steps {x y : Nat} (hx : xOk x = true) (hy : yOk y = true) :
    Step x y (negF y) x ∧ Step (negF y) x (negF x) (negF y) ∧ Step (negF x) (negF y) y (negF x) ∧ Step y (negF x) x y := by
  simp only [xOk, yOk, Bool.and_eq_true, Bool.or_eq_true, beq_iff_eq] at hx hy
  obtain ⟨⟨⟨⟨⟨⟨⟨⟨⟨⟨⟨x1, x2⟩, x3⟩, x4⟩, x5⟩, x6⟩, x7⟩, x8⟩, x9⟩, xa⟩, xb⟩, xc⟩ := hx
  obtain ⟨⟨⟨⟨⟨⟨⟨⟨⟨⟨⟨⟨⟨⟨⟨y1, y2⟩, y3⟩, y4⟩, y5⟩, y6⟩, y7⟩, y8⟩, y9⟩, ya⟩, yb⟩, yc⟩, yd⟩, ye⟩, yf⟩, yg⟩ := hy
  refine ⟨⟨?_, ?_⟩, ⟨?_, ?_⟩, ⟨?_, ?_⟩, ⟨?_, ?_⟩⟩
  · unfold mulRe; rw [y1]; rcases x3 with h | h <;> rw [h] <;> simp [op2, y5, y6]
  · unfold mulIm; rw [x1, y3]; simp [op2, x7]
  · unfold mulRe; rw [y4, x1]; simp [op2, x5]
  · unfold mulIm; rw [y2]; rcases x3 with h | h <;> rw [h] <;> simp [op2, y7, y8]
  · unfold mulRe; rw [y2]; rcases x4 with h | h <;> rw [h] <;> simp [op2, y9, ya]
  · unfold mulIm; rw [x2, y4]; simp [op2, x8]
  · unfold mulRe; rw [y3, x2]; simp [op2, x6]
  · unfold mulIm; rw [y1]; rcases x4 with h | h <;> rw [h] <;> simp [op2, yb, yc]

theorem op2_add_comm' (o p : Option Nat) : op2 .add o p = op2 .add p o := by
  cases o <;> cases p <;> simp [op2]
  exact add_comm' _ _

theorem sizes {x y : Nat} (hx : xOk x = true) (hy : yOk y = true) :
    ∃ t, nanB t = false ∧ sizeF x y = some t ∧ sizeF (negF y) x = some t ∧ sizeF (negF x) (negF y) = some t ∧ sizeF y (negF x) = some t ∧ nanB x = false ∧ nanB y = false ∧ nanB (negF y) = false := by
  simp only [xOk, yOk, Bool.and_eq_true, Bool.or_eq_true, beq_iff_eq, Bool.not_eq_true'] at hx hy
  obtain ⟨⟨⟨⟨⟨⟨⟨⟨⟨⟨⟨x1, x2⟩, x3⟩, x4⟩, x5⟩, x6⟩, x7⟩, x8⟩, x9⟩, xa⟩, xb⟩, xc⟩ := hx
  obtain ⟨⟨⟨⟨⟨⟨⟨⟨⟨⟨⟨⟨⟨⟨⟨y1, y2⟩, y3⟩, y4⟩, y5⟩, y6⟩, y7⟩, y8⟩, y9⟩, ya⟩, yb⟩, yc⟩, yd⟩, ye⟩, yf⟩, yg⟩ := hy
  cases hp : floatBits .mul .f64 x x with
  | none => simp [sqB, hp] at xa
  | some p =>
    cases hq : floatBits .mul .f64 y y with
    | none => simp [sqB, hq] at ye
    | some q =>
      simp only [sqB, hp] at xa
      simp only [sqB, hq] at ye
      obtain ⟨t, ht, hn⟩ := add_num xa ye
      have e : sizeF x y = some t := by unfold sizeF; rw [hp, hq]; simpa [op2] using ht
      refine ⟨t, hn, e, ?_, ?_, ?_, xb, yf, yg⟩
      · rw [← e]; unfold sizeF; rw [yd, op2_add_comm']
      · rw [← e]; unfold sizeF; rw [x9, yd]
      · rw [← e]; unfold sizeF; rw [x9, op2_add_comm']
end Go.Proofs.Ytijgkpkakkjkgaa
