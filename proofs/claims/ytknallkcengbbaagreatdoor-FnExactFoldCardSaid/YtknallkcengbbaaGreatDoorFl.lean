import Derived.Laws.FloatArith
import Derived.Deep.Draws
namespace Go.Proofs.YtknallkcengbbaaGreatDoor
open Ieee

def nanB (x : Nat) : Bool := (double.read x).isNaN

theorem sw : double.signWeight = 9223372036854775808 := by decide +kernel
theorem bn : double.binade = 4503599627370496 := by decide +kernel
theorem ir : double.infRung = 9218868437227405312 := by decide +kernel
theorem lp : double.leastPlace = -1074 := by decide +kernel

theorem read_def (x : Nat) : double.read x =
    if x % 9223372036854775808 < 4503599627370496 then .number (x / 9223372036854775808 % 2 == 1) (x % 9223372036854775808) (-1074)
    else if x % 9223372036854775808 < 9218868437227405312 then
      .number (x / 9223372036854775808 % 2 == 1) (4503599627370496 + x % 9223372036854775808 % 4503599627370496) (-1074 + (x % 9223372036854775808 / 4503599627370496 - 1 : Nat))
    else if x % 9223372036854775808 = 9218868437227405312 then .infinity (x / 9223372036854775808 % 2 == 1)
    else .nan (x / 9223372036854775808 % 2 == 1) (x % 9223372036854775808 - 9218868437227405312) := by
  unfold Format.read
  rw [sw, bn, ir, lp]

theorem nanB_def (x : Nat) : nanB x = decide (9218868437227405312 < x % 9223372036854775808) := by
  unfold nanB
  rw [read_def]
  split
  · rw [eq_comm, show (Datum.number _ _ _).isNaN = false from rfl, decide_eq_false_iff_not]; omega
  · split
    · rw [eq_comm, show (Datum.number _ _ _).isNaN = false from rfl, decide_eq_false_iff_not]; omega
    · split
      · rw [eq_comm, show (Datum.infinity _).isNaN = false from rfl, decide_eq_false_iff_not]; omega
      · rw [eq_comm, show (Datum.nan _ _).isNaN = true from rfl, decide_eq_true_eq]; omega

/-- what a word that is no NaN stands for: an infinity, or a number in its one form. -/
def Form (x : Nat) (d : Datum) : Prop :=
  (x % 9223372036854775808 = 9218868437227405312 ∧ d = .infinity (x / 9223372036854775808 % 2 == 1)) ∨
  ∃ m k : Nat, m < 9007199254740992 ∧ (k = 0 ∨ 4503599627370496 ≤ m) ∧ x % 9223372036854775808 = k * 4503599627370496 + m ∧ k < 2046 ∧ d = .number (x / 9223372036854775808 % 2 == 1) m (-1074 + (k : Int))

theorem form_of (x : Nat) (h : nanB x = false) : Form x (double.read x) := by
  rw [nanB_def, decide_eq_false_iff_not] at h
  rw [read_def]
  split
  · exact Or.inr ⟨_, 0, by omega, Or.inl rfl, by omega, by omega, rfl⟩
  · split
    · exact Or.inr ⟨_, _, by omega, Or.inr (by omega), by omega, by omega, rfl⟩
    · rw [if_pos (by omega)]
      exact Or.inl ⟨by omega, rfl⟩

theorem read_nan (x : Nat) (h : nanB x = true) : ∃ s f, double.read x = .nan s f := by
  unfold nanB at h
  revert h
  cases double.read x with
  | number => intro h; cases h
  | infinity => intro h; cases h
  | nan s f => intro _; exact ⟨s, f, rfl⟩

theorem order_nan_left (x y : Nat) (h : nanB x = true) : double.order x y = none := by
  obtain ⟨s, f, e⟩ := read_nan x h
  unfold Format.order; rw [e]; cases double.read y <;> rfl

theorem order_nan_right (x y : Nat) (h : nanB y = true) : double.order x y = none := by
  obtain ⟨s, f, e⟩ := read_nan y h
  unfold Format.order; rw [e]; cases double.read x <;> rfl

theorem signed_eq {s t : Bool} {m n a b : Nat} (h : signed s m a = signed t n b) : m * 2 ^ a = n * 2 ^ b ∧ (m = 0 ∨ s = t) := by
  unfold signed at h
  rw [Nat.shiftLeft_eq, Nat.shiftLeft_eq] at h
  have pa : 0 < 2 ^ a := Nat.two_pow_pos a
  have e : m * 2 ^ a = 0 → m = 0 := fun q => by
    rcases Nat.mul_eq_zero.1 q with q | q
    · exact q
    · omega
  generalize m * 2 ^ a = p at *
  generalize n * 2 ^ b = q at *
  cases s <;> cases t <;> simp at h ⊢ <;> first | omega | exact ⟨by omega, e (by omega)⟩

theorem mag_eq {m n k l : Nat} (hm : m < 9007199254740992) (hn : n < 9007199254740992) (hk : k = 0 ∨ 4503599627370496 ≤ m) (hl : l = 0 ∨ 4503599627370496 ≤ n)
    (h : m * 2 ^ (k - min k l) = n * 2 ^ (l - min k l)) (h0 : m ≠ 0) : k = l ∧ m = n := by
  have grow : ∀ {u v : Nat}, 0 < v → 4503599627370496 ≤ u → 9007199254740992 ≤ u * 2 ^ v := by
    intro u v hv hu
    obtain ⟨c, rfl⟩ : ∃ c, v = c + 1 := ⟨v - 1, by omega⟩
    rw [Nat.pow_succ]
    have : 1 ≤ 2 ^ c := Nat.one_le_two_pow
    exact Nat.le_trans (show 9007199254740992 ≤ u * (1 * 2) by omega) (Nat.mul_le_mul_left _ (Nat.mul_le_mul_right _ this))
  by_cases c : k = l
  · subst c
    simp only [Nat.min_self, Nat.sub_self, Nat.pow_zero, Nat.mul_one] at h
    exact ⟨rfl, h⟩
  · exfalso
    by_cases d : k < l
    · rw [Nat.min_eq_left (by omega), Nat.sub_self, Nat.pow_zero, Nat.mul_one] at h
      have := grow (u := n) (v := l - k) (by omega) (by omega)
      omega
    · rw [Nat.min_eq_right (by omega), Nat.sub_self, Nat.pow_zero, Nat.mul_one] at h
      have := grow (u := m) (v := k - l) (by omega) (by omega)
      omega

theorem cmp_int (a b : Int) : (compare a b == Ordering.eq) = decide (a = b) := by
  rw [Bool.eq_iff_iff, beq_iff_eq, decide_eq_true_eq]; exact Std.LawfulEqOrd.compare_eq_iff_eq

theorem order_eq (x y : Nat) (hx : x < 18446744073709551616) (hy : y < 18446744073709551616) (nx : nanB x = false) (ny : nanB y = false) :
    (double.order x y == some .eq) = (x == y || (x % 9223372036854775808 == 0 && y % 9223372036854775808 == 0)) := by
  unfold Format.order
  have fx := form_of x nx
  have fy := form_of y ny
  generalize double.read x = dx at *
  generalize double.read y = dy at *
  rcases fx with ⟨h1, rfl⟩ | ⟨m, k, a, b, c, d, rfl⟩
  · rcases fy with ⟨h2, rfl⟩ | ⟨n, l, a', b', c', d', rfl⟩
    · have hs : (x / 9223372036854775808 % 2 == 1) = decide (9223372036854775808 ≤ x) := by rw [Bool.eq_iff_iff, beq_iff_eq, decide_eq_true_eq]; omega
      have ht : (y / 9223372036854775808 % 2 == 1) = decide (9223372036854775808 ≤ y) := by rw [Bool.eq_iff_iff, beq_iff_eq, decide_eq_true_eq]; omega
      rw [hs, ht, h1]
      by_cases a : 9223372036854775808 ≤ x <;> by_cases b : 9223372036854775808 ≤ y
      · rw [decide_eq_true a, decide_eq_true b, show x = y by omega]; simp [Datum.order]
      · rw [decide_eq_true a, decide_eq_false b, beq_eq_false_iff_ne.2 (show x ≠ y by omega)]; rfl
      · rw [decide_eq_false a, decide_eq_true b, beq_eq_false_iff_ne.2 (show x ≠ y by omega)]; rfl
      · rw [decide_eq_false a, decide_eq_false b, show x = y by omega]; simp [Datum.order]
    · rw [beq_eq_false_iff_ne.2 (show x ≠ y by intro e; subst e; omega), h1]
      simp only [Datum.order]; split <;> rfl
  · rcases fy with ⟨h2, rfl⟩ | ⟨n, l, a', b', c', d', rfl⟩
    · rw [beq_eq_false_iff_ne.2 (show x ≠ y by intro e; subst e; omega), h2]
      simp only [Datum.order]; rw [show (9218868437227405312 == 0) = false from rfl, Bool.and_false]; split <;> rfl
    · have hb : min (-1074 + (k : Int)) (-1074 + (l : Int)) = -1074 + (min k l : Nat) := by omega
      simp only [Datum.order, hb]
      rw [show (-1074 + (k : Int) - (-1074 + ((min k l : Nat) : Int))).toNat = k - min k l by omega, show (-1074 + (l : Int) - (-1074 + ((min k l : Nat) : Int))).toNat = l - min k l by omega]
      show (some (compare _ _) == some Ordering.eq) = _
      rw [show ∀ o : Ordering, (some o == some Ordering.eq) = (o == Ordering.eq) from fun o => by cases o <;> rfl, cmp_int]
      rw [Bool.eq_iff_iff, decide_eq_true_eq, Bool.or_eq_true, Bool.and_eq_true, beq_iff_eq, beq_iff_eq, beq_iff_eq]
      constructor
      · intro h
        obtain ⟨e, s⟩ := signed_eq h
        by_cases h0 : m = 0
        · subst h0
          right
          rw [Nat.zero_mul] at e
          have : n = 0 := by
            rcases Nat.mul_eq_zero.1 e.symm with q | q
            · exact q
            · have := Nat.two_pow_pos (l - min k l); omega
          omega
        · left
          obtain ⟨rfl, rfl⟩ := mag_eq a a' b b' e h0
          rcases s with s | s
          · exact absurd s h0
          · have hs : (x / 9223372036854775808 % 2 = 1) ↔ (y / 9223372036854775808 % 2 = 1) := by rw [Bool.eq_iff_iff, beq_iff_eq, beq_iff_eq] at s; exact s
            omega
      · rintro (rfl | ⟨h1, h2⟩)
        · have e : k * 4503599627370496 + m = l * 4503599627370496 + n := by omega
          have : k = l ∧ m = n := by omega
          obtain ⟨rfl, rfl⟩ := this
          rfl
        · have : m = 0 ∧ n = 0 := by omega
          obtain ⟨rfl, rfl⟩ := this
          unfold signed; simp

theorem order_self (x : Nat) : (double.order x x == some .eq) = !nanB x := by
  cases h : nanB x with
  | true => rw [order_nan_left x x h]; rfl
  | false =>
    have fx := form_of x h
    unfold Format.order
    generalize double.read x = dx at *
    rcases fx with ⟨_, rfl⟩ | ⟨_, _, _, _, _, _, rfl⟩ <;> simp [Datum.order]

theorem order_zero (x : Nat) (hx : x < 18446744073709551616) : (double.order x 0 == some .eq) = (x == 0 || x == 9223372036854775808) := by
  cases h : nanB x with
  | true =>
    rw [order_nan_left x 0 h]
    rw [nanB_def, decide_eq_true_eq] at h
    rw [beq_eq_false_iff_ne.2 (show x ≠ 0 by omega), beq_eq_false_iff_ne.2 (show x ≠ 9223372036854775808 by omega)]; rfl
  | false =>
    rw [order_eq x 0 hx (by decide) h (by decide +kernel)]
    rw [Bool.eq_iff_iff]; simp; omega


/-- '+0 and not -0'. -/
def plusB (x : Nat) : Bool := x == 0

theorem div_one_pos : double.div 4607182418800017408 0 = some 9218868437227405312 := by decide +kernel
theorem div_one_neg : double.div 4607182418800017408 9223372036854775808 = some 18442240474082181120 := by decide +kernel
theorem inf_pos : (double.order 9218868437227405312 0 == some .gt) = true := by decide +kernel
theorem inf_neg : (double.order 18442240474082181120 0 == some .gt) = false := by decide +kernel

/-- the same float: all NaNs are one. -/
def sameB (x y : Nat) : Bool := if nanB x || nanB y then nanB x && nanB y else x == y

theorem sameB_refl (x : Nat) : sameB x x = true := by
  unfold sameB; cases nanB x <;> simp

/-- what an operation that is asked twice may tell: its word, or any NaN. -/
def Is (o : Option Nat) (x : Nat) : Prop := x < 18446744073709551616 ∧ (o = some x ∨ (o = none ∧ nanB x = true))

theorem Is.same {o : Option Nat} {x y : Nat} (hx : Is o x) (hy : Is o y) : sameB x y = true := by
  rcases hx.2 with h | ⟨h, a⟩ <;> rcases hy.2 with g | ⟨g, b⟩
  · rw [h] at g; cases g; exact sameB_refl _
  · rw [h] at g; cases g
  · rw [h] at g; cases g
  · unfold sameB; simp [a, b]

theorem sum_comm (a b : Datum) : a.sum b = b.sum a := by
  cases a <;> cases b <;> simp only [Datum.sum]
  · rename_i s m i t n j
    rw [Int.min_comm j i, Int.add_comm (signed t n _), Bool.and_comm t s]
  · rename_i s t
    by_cases h : s = t
    · subst h; rfl
    · rw [if_neg h, if_neg (fun e => h e.symm)]

theorem product_comm (a b : Datum) : a.product b = b.product a := by
  cases a <;> cases b <;> simp only [Datum.product]
  · rename_i s m i t n j
    rw [Bool.xor_comm s t, Nat.mul_comm m n, Int.add_comm i j]
  · rename_i s t
    rw [Bool.xor_comm s t]

theorem add_comm' (x y : Nat) : floatBits .add .f64 x y = floatBits .add .f64 y x := by
  show (Option.map _ _) = (Option.map _ _); rw [sum_comm]
theorem mul_comm' (x y : Nat) : floatBits .mul .f64 x y = floatBits .mul .f64 y x := by
  show (Option.map _ _) = (Option.map _ _); rw [product_comm]

theorem bits_nan_left (op : BinOp) (x y : Nat) (h : nanB x = true) : floatBits op .f64 x y = none := by
  obtain ⟨s, f, e⟩ := read_nan x h
  have e' : FloatKind.f64.format.read x = .nan s f := e
  cases op <;> simp only [floatBits, Format.add, Format.sub, Format.mul, Format.div, e'] <;> cases FloatKind.f64.format.read y <;> rfl

theorem bits_nan_right (op : BinOp) (x y : Nat) (h : nanB y = true) : floatBits op .f64 x y = none := by
  obtain ⟨s, f, e⟩ := read_nan y h
  have e' : FloatKind.f64.format.read y = .nan s f := e
  cases op <;> simp only [floatBits, Format.add, Format.sub, Format.mul, Format.div, e'] <;> cases FloatKind.f64.format.read x <;> rfl

/-- an operation on what two others may tell. -/
def op2 (op : BinOp) (o p : Option Nat) : Option Nat := o.bind fun x => p.bind fun y => floatBits op .f64 x y

theorem Is.op2 {op : BinOp} {o p : Option Nat} {x y r : Nat} (hx : Is o x) (hy : Is p y) (hr : Is (floatBits op .f64 x y) r) : Is (op2 op o p) r := by
  refine ⟨hr.1, ?_⟩
  have key : YtknallkcengbbaaGreatDoor.op2 op o p = floatBits op .f64 x y := by
    unfold YtknallkcengbbaaGreatDoor.op2
    rcases hx.2 with h | ⟨h, a⟩
    · rcases hy.2 with g | ⟨g, b⟩
      · rw [h, g]; rfl
      · rw [h, g, bits_nan_right op x y b]; rfl
    · rw [h, bits_nan_left op x y a]; rfl
  rw [key]
  exact hr.2

/-- which word an operation tells in a world. -/
def fres (op : BinOp) (x y : Nat) (w : World) : Nat :=
  match floatBits op .f64 x y with
  | some r => r
  | none => (Question.nanBits .f64 x y).cut (w.tape w.drawn (.nanBits .f64 x y))
def fdraw (op : BinOp) (x y : Nat) : Nat := if (floatBits op .f64 x y).isSome then 0 else 1

theorem fres_is (op : BinOp) (x y : Nat) (w : World) : Is (floatBits op .f64 x y) (fres op x y w) := by
  unfold fres
  cases h : floatBits op .f64 x y with
  | some r =>
    have := floatBits_wf h
    simp [Lit.wf] at this
    exact ⟨this, Or.inl rfl⟩
  | none =>
    simp only [Question.cut]
    generalize w.tape w.drawn (.nanBits .f64 x y) = t
    have h2 : t / 2 % (2 ^ 52 - 1) < 4503599627370495 := Nat.mod_lt _ (by decide)
    generalize t / 2 % (2 ^ 52 - 1) = u at *
    have h1 : t % 2 = 0 ∨ t % 2 = 1 := by omega
    refine ⟨by omega, Or.inr ⟨rfl, ?_⟩⟩
    rw [nanB_def, decide_eq_true_eq]
    rcases h1 with h1 | h1 <;> rw [h1] <;> omega

def arith4 : BinOp → Bool
  | .add | .sub | .mul | .quo => true
  | _ => false

theorem run_float_any {P : Program} (op : BinOp) (h4 : arith4 op = true) (t : TypeId) (x y : Nat) (w : World) :
    (binOp op t (.float .f64 x) (.float .f64 y)).run P w = .ok (.float .f64 (fres op x y w)) (w.drewN (fdraw op x y)) := by
  cases h : floatBits op .f64 x y with
  | some r =>
    rw [run_float_arith w op t .f64 x y r h]
    simp [fres, fdraw, h, World.drewN]
  | none =>
    have e : (op = .add ∧ FloatKind.f64.format.add x y = none) ∨ (op = .sub ∧ FloatKind.f64.format.sub x y = none) ∨ (op = .mul ∧ FloatKind.f64.format.mul x y = none) ∨ (op = .quo ∧ FloatKind.f64.format.div x y = none) := by
      cases op <;> first | (cases h4; done) | (simp only [floatBits] at h; simp [h])
    rcases e with ⟨rfl, e⟩ | ⟨rfl, e⟩ | ⟨rfl, e⟩ | ⟨rfl, e⟩ <;>
      simp [binOp, Op.floatArith, e, fres, fdraw, h, World.drewN, Question.forced]

end Go.Proofs.YtknallkcengbbaaGreatDoor
