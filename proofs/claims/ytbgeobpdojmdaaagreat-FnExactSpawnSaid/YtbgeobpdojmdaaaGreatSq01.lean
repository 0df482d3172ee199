import Derived.Laws.FloatArith
import Derived.Deep.Draws
import Derived.Test.YtbgeobpdojmdaaaGreatRows
import Derived.WalkKit
import Derived.WalkSpells
import Derived.WalkLawsBesides
import Derived.Laws.Externs
import Derived.Deep.RegionWith
import Derived.Deep.DeepCutAuto
import Derived.Laws.OwnMore
namespace Go.Proofs.YtbgeobpdojmdaaaGreat
section
open Ieee
def nanB (x : Nat) : Bool := (double.read x).isNaN
theorem sw : double.signWeight = 9223372036854775808 := by decide +kernel
theorem bn : double.binade = 4503599627370496 := by decide +kernel
theorem ir : double.infRung = 9218868437227405312 := by decide +kernel
theorem lp : double.leastPlace = -1074 := by decide +kernel
theorem read_def (x : Nat) : double.read x =
  if x % 9223372036854775808 < 4503599627370496 then .number (x / 9223372036854775808 % 2 == 1) (x % 9223372036854775808) (-1074)
  else if x % 9223372036854775808 < 9218868437227405312 then
   .number (x / 9223372036854775808 % 2 == 1) (4503599627370496 + x % 9223372036854775808 % 4503599627370496) (-1074 + (x % 9223372036854775808 / 4503599627370496 - 1 : Nat))
  else if x % 9223372036854775808 = 9218868437227405312 then .infinity (x / 9223372036854775808 % 2 == 1)
  else .nan (x / 9223372036854775808 % 2 == 1) (x % 9223372036854775808 - 9218868437227405312) := by
 unfold Format.read
 rw [sw, bn, ir, lp]
theorem nanB_def (x : Nat) : nanB x = decide (9218868437227405312 < x % 9223372036854775808) := by
 unfold nanB
 rw [read_def]
 split
 ·
  rw [eq_comm, show (Datum.number _ _ _).isNaN = false from rfl, decide_eq_false_iff_not]; omega
 split
 ·
  rw [eq_comm, show (Datum.number _ _ _).isNaN = false from rfl, decide_eq_false_iff_not]; omega
 split
 ·
  rw [eq_comm, show (Datum.infinity _).isNaN = false from rfl, decide_eq_false_iff_not]; omega
 rw [eq_comm, show (Datum.nan _ _).isNaN = true from rfl, decide_eq_true_eq]; omega
def Form (x : Nat) (d : Datum) : Prop :=
 (x % 9223372036854775808 = 9218868437227405312 ∧ d = .infinity (x / 9223372036854775808 % 2 == 1)) ∨
 ∃ m k : Nat, m < 9007199254740992 ∧ (k = 0 ∨ 4503599627370496 ≤ m) ∧ x % 9223372036854775808 = k * 4503599627370496 + m ∧ k < 2046 ∧ d = .number (x / 9223372036854775808 % 2 == 1) m (-1074 + (k : Int))
theorem form_of (x : Nat) (h : nanB x = false) : Form x (double.read x) := by
 rw [nanB_def, decide_eq_false_iff_not] at h
 rw [read_def]
 split
 ·
  exact Or.inr ⟨_, 0, by omega, Or.inl rfl, by omega, by omega, rfl⟩
 split
 ·
  exact Or.inr ⟨_, _, by omega, Or.inr (by omega), by omega, by omega, rfl⟩
 rw [if_pos (by omega)]
 exact Or.inl ⟨by omega, rfl⟩
theorem read_nan (x : Nat) (h : nanB x = true) : ∃ s f, double.read x = .nan s f := by
 unfold nanB at h
 revert h
 cases double.read x with
 | number => intro h; cases h
 | infinity => intro h; cases h
 | nan s f => intro _; exact ⟨s, f, rfl⟩
theorem order_nan_left (x y : Nat) (h : nanB x = true) : double.order x y = none := by
 obtain ⟨s, f, e⟩ := read_nan x h
 unfold Format.order; rw [e]; cases double.read y <;> rfl
theorem signed_eq {s t : Bool} {m n a b : Nat} (h : signed s m a = signed t n b) : m * 2 ^ a = n * 2 ^ b ∧ (m = 0 ∨ s = t) := by
 unfold signed at h
 rw [Nat.shiftLeft_eq, Nat.shiftLeft_eq] at h
 have pa : 0 < 2 ^ a := Nat.two_pow_pos a
 have e : m * 2 ^ a = 0 → m = 0 := fun q => by
  rcases Nat.mul_eq_zero.1 q with q | q
  ·
   exact q
  omega
 generalize m * 2 ^ a = p at *
 generalize n * 2 ^ b = q at *
 cases s <;> cases t <;> simp at h ⊢ <;> first | omega | exact ⟨by omega, e (by omega)⟩
theorem mag_eq {m n k l : Nat} (hm : m < 9007199254740992) (hn : n < 9007199254740992) (hk : k = 0 ∨ 4503599627370496 ≤ m) (hl : l = 0 ∨ 4503599627370496 ≤ n)
  (h : m * 2 ^ (k - min k l) = n * 2 ^ (l - min k l)) (h0 : m ≠ 0) : k = l ∧ m = n := by
 have grow : ∀ {u v : Nat}, 0 < v → 4503599627370496 ≤ u → 9007199254740992 ≤ u * 2 ^ v := by
  intro u v hv hu
  obtain ⟨c, rfl⟩ : ∃ c, v = c + 1 := ⟨v - 1, by omega⟩
  rw [Nat.pow_succ]
  have : 1 ≤ 2 ^ c := Nat.one_le_two_pow
  exact Nat.le_trans (show 9007199254740992 ≤ u * (1 * 2) by omega) (Nat.mul_le_mul_left _ (Nat.mul_le_mul_right _ this))
 by_cases c : k = l
 ·
  subst c
  simp only [Nat.min_self, Nat.sub_self, Nat.pow_zero, Nat.mul_one] at h
  exact ⟨rfl, h⟩
 exfalso
 by_cases d : k < l
 ·
  rw [Nat.min_eq_left (by omega), Nat.sub_self, Nat.pow_zero, Nat.mul_one] at h
  have := grow (u := n) (v := l - k) (by omega) (by omega)
  omega
 rw [Nat.min_eq_right (by omega), Nat.sub_self, Nat.pow_zero, Nat.mul_one] at h
 have := grow (u := m) (v := k - l) (by omega) (by omega)
 omega
theorem cmp_int (a b : Int) : (compare a b == Ordering.eq) = decide (a = b) := by
 rw [Bool.eq_iff_iff, beq_iff_eq, decide_eq_true_eq]; exact Std.LawfulEqOrd.compare_eq_iff_eq
theorem order_eq (x y : Nat) (hx : x < 18446744073709551616) (hy : y < 18446744073709551616) (nx : nanB x = false) (ny : nanB y = false) :
  (double.order x y == some .eq) = (x == y || (x % 9223372036854775808 == 0 && y % 9223372036854775808 == 0)) := by
 unfold Format.order
 have fx := form_of x nx
 have fy := form_of y ny
 generalize double.read x = dx at *
 generalize double.read y = dy at *
 rcases fx with ⟨h1, rfl⟩ | ⟨m, k, a, b, c, d, rfl⟩
 ·
  rcases fy with ⟨h2, rfl⟩ | ⟨n, l, a', b', c', d', rfl⟩
  ·
   have hs : (x / 9223372036854775808 % 2 == 1) = decide (9223372036854775808 ≤ x) := by rw [Bool.eq_iff_iff, beq_iff_eq, decide_eq_true_eq]; omega
   have ht : (y / 9223372036854775808 % 2 == 1) = decide (9223372036854775808 ≤ y) := by rw [Bool.eq_iff_iff, beq_iff_eq, decide_eq_true_eq]; omega
   rw [hs, ht, h1]
   by_cases a : 9223372036854775808 ≤ x <;> by_cases b : 9223372036854775808 ≤ y
   ·
    rw [decide_eq_true a, decide_eq_true b, show x = y by omega]; simp [Datum.order]
   ·
    rw [decide_eq_true a, decide_eq_false b, beq_eq_false_iff_ne.2 (show x ≠ y by omega)]; rfl
   ·
    rw [decide_eq_false a, decide_eq_true b, beq_eq_false_iff_ne.2 (show x ≠ y by omega)]; rfl
   rw [decide_eq_false a, decide_eq_false b, show x = y by omega]; simp [Datum.order]
  rw [beq_eq_false_iff_ne.2 (show x ≠ y by intro e; subst e; omega), h1]
  simp only [Datum.order]; split <;> rfl
 rcases fy with ⟨h2, rfl⟩ | ⟨n, l, a', b', c', d', rfl⟩
 ·
  rw [beq_eq_false_iff_ne.2 (show x ≠ y by intro e; subst e; omega), h2]
  simp only [Datum.order]; rw [show (9218868437227405312 == 0) = false from rfl, Bool.and_false]; split <;> rfl
 have hb : min (-1074 + (k : Int)) (-1074 + (l : Int)) = -1074 + (min k l : Nat) := by omega
 simp only [Datum.order, hb]
 rw [show (-1074 + (k : Int) - (-1074 + ((min k l : Nat) : Int))).toNat = k - min k l by omega, show (-1074 + (l : Int) - (-1074 + ((min k l : Nat) : Int))).toNat = l - min k l by omega]
 show (some (compare _ _) == some Ordering.eq) = _
 rw [show ∀ o : Ordering, (some o == some Ordering.eq) = (o == Ordering.eq) from fun o => by cases o <;> rfl, cmp_int]
 rw [Bool.eq_iff_iff, decide_eq_true_eq, Bool.or_eq_true, Bool.and_eq_true, beq_iff_eq, beq_iff_eq, beq_iff_eq]
 constructor
 ·
  intro h
  obtain ⟨e, s⟩ := signed_eq h
  by_cases h0 : m = 0
  ·
   subst h0
   right
   rw [Nat.zero_mul] at e
   have : n = 0 := by
    rcases Nat.mul_eq_zero.1 e.symm with q | q
    ·
     exact q
    have := Nat.two_pow_pos (l - min k l); omega
   omega
  left
  obtain ⟨rfl, rfl⟩ := mag_eq a a' b b' e h0
  rcases s with s | s
  ·
   exact absurd s h0
  have hs : (x / 9223372036854775808 % 2 = 1) ↔ (y / 9223372036854775808 % 2 = 1) := by rw [Bool.eq_iff_iff, beq_iff_eq, beq_iff_eq] at s; exact s
  omega
 rintro (rfl | ⟨h1, h2⟩)
 ·
  have e : k * 4503599627370496 + m = l * 4503599627370496 + n := by omega
  have : k = l ∧ m = n := by omega
  obtain ⟨rfl, rfl⟩ := this
  rfl
 have : m = 0 ∧ n = 0 := by omega
 obtain ⟨rfl, rfl⟩ := this
 unfold signed; simp
theorem order_self (x : Nat) : (double.order x x == some .eq) = !nanB x := by
 cases h : nanB x with
 | true => rw [order_nan_left x x h]; rfl
 | false =>
  have fx := form_of x h
  unfold Format.order
  generalize double.read x = dx at *
  rcases fx with ⟨_, rfl⟩ | ⟨_, _, _, _, _, _, rfl⟩ <;> simp [Datum.order]
theorem order_zero (x : Nat) (hx : x < 18446744073709551616) : (double.order x 0 == some .eq) = (x == 0 || x == 9223372036854775808) := by
 cases h : nanB x with
 | true =>
  rw [order_nan_left x 0 h]
  rw [nanB_def, decide_eq_true_eq] at h
  rw [beq_eq_false_iff_ne.2 (show x ≠ 0 by omega), beq_eq_false_iff_ne.2 (show x ≠ 9223372036854775808 by omega)]; rfl
 | false =>
  rw [order_eq x 0 hx (by decide) h (by decide +kernel)]
  rw [Bool.eq_iff_iff]; simp; omega
def plusB (x : Nat) : Bool := x == 0
theorem div_one_pos : double.div 4607182418800017408 0 = some 9218868437227405312 := by decide +kernel
theorem div_one_neg : double.div 4607182418800017408 9223372036854775808 = some 18442240474082181120 := by decide +kernel
theorem inf_pos : (double.order 9218868437227405312 0 == some .gt) = true := by decide +kernel
theorem inf_neg : (double.order 18442240474082181120 0 == some .gt) = false := by decide +kernel
def sameB (x y : Nat) : Bool := if nanB x || nanB y then nanB x && nanB y else x == y
theorem sameB_refl (x : Nat) : sameB x x = true := by
 unfold sameB; cases nanB x <;> simp
def Is (o : Option Nat) (x : Nat) : Prop := x < 18446744073709551616 ∧ (o = some x ∨ (o = none ∧ nanB x = true))
theorem Is.same {o : Option Nat} {x y : Nat} (hx : Is o x) (hy : Is o y) : sameB x y = true := by
 rcases hx.2 with h | ⟨h, a⟩ <;> rcases hy.2 with g | ⟨g, b⟩
 ·
  rw [h] at g; cases g; exact sameB_refl _
 ·
  rw [h] at g; cases g
 ·
  rw [h] at g; cases g
 unfold sameB; simp [a, b]
end
section
open Go.RowKit
@[go_sem] theorem run_store_float (P : Program) (w : World) (a : Addr) (m : Mode) (k : FloatKind) (x : Nat) : (store a (.float k x) m).run P w = stored P w a (.float k x) m := run_store P w a _ m rfl
theorem bits_run (x : Nat) (w : World) : (callFunc 148 #[.float .f64 x]).run Tryz.prog w = .ok (.value (.int .u64 x)) w := by
 rw [run_callFunc_extern (e := Extern.MathFloatBits.float64bits) Tryz.func148 (by kernel_rfl) (by kernel_rfl) (by kernel_rfl) (by kernel_rfl)]
 rfl
theorem cast_zero (x : Nat) : ((x : Int) == 0) = plusB x := by
 unfold plusB; rw [Bool.eq_iff_iff]; simp
theorem plusB_false {x : Nat} (a : ¬ x = 0) : false = plusB x := by unfold plusB; rw [beq_eq_false_iff_ne.2 a]
theorem ret_bool {a b : Bool} (h : a = b) : Ending.returned (.bool a) = .returned (.bool b) := by rw [h]
set_option maxHeartbeats 400000 in
theorem plusZero_any (x : Nat) (w : World) :
  Calls Tryz.prog 141 #[.float .f64 x] w fun e w' => e = .returned (.bool (plusB x)) ∧ w' = w := by
 have hb := bits_run
 go_enter Tryz.func141, Tryz.ntmps141
 go_wp2
 go_ret; exact ⟨ret_bool (cast_zero x), rfl⟩
set_option maxHeartbeats 400000 in
theorem l1Plus_any (x : Nat) (w : World) (hx : x < 18446744073709551616) :
  Calls Tryz.prog 92 #[.float .f64 x] w fun e w' => e = .returned (.bool (plusB x)) ∧ w' = w := by
 by_cases a : x = 0
 ·
  subst a
  have hd := fun t w => run_float_arith (P := Tryz.prog) w .quo t .f64 4607182418800017408 0 9218868437227405312 div_one_pos
  have h1 : (FloatKind.f64.format.order 0 0 == some Ordering.eq) = true := order_zero 0 (by decide)
  have h2 : (FloatKind.f64.format.order 9218868437227405312 0 == some Ordering.gt) = true := inf_pos
  clear hx; go_enter Tryz.func92, Tryz.ntmps92
  go_wp2
  go_ret; exact ⟨rfl, rfl⟩
 by_cases b : x = 9223372036854775808
 ·
  obtain ⟨r, hr, h2⟩ : ∃ r, floatBits .quo .f64 4607182418800017408 x = some r ∧ (FloatKind.f64.format.order r 0 == some Ordering.gt) = false := ⟨18442240474082181120, by rw [b]; exact div_one_neg, inf_neg⟩
  have hd := fun t w => run_float_arith (P := Tryz.prog) w .quo t .f64 4607182418800017408 x r hr
  have h1 : (FloatKind.f64.format.order x 0 == some Ordering.eq) = true := by
   have := order_zero x hx
   rw [beq_iff_eq.2 b, Bool.or_true] at this; exact this
  clear hr b hx; go_enter Tryz.func92, Tryz.ntmps92
  go_wp2
  go_ret; exact ⟨ret_bool (plusB_false a), rfl⟩
 have h1 : (FloatKind.f64.format.order x 0 == some Ordering.eq) = false := by
  have := order_zero x hx
  rw [beq_eq_false_iff_ne.2 a, beq_eq_false_iff_ne.2 b] at this; exact this
 clear b hx; go_enter Tryz.func92, Tryz.ntmps92
 go_wp2
 go_ret; exact ⟨ret_bool (plusB_false a), rfl⟩
end
section
open Go.RowKit
def okB (k i : Int) (x y : Nat) : Bool :=
 if k = 1 then plusB x && plusB y else if k = 2 then i == 0 && plusB y else if k = 3 then i == 0
 else if k = 4 then (i == 0 || i == 1) && plusB x && plusB y else false
set_option maxHeartbeats 400000 in
theorem implOk_any (k i : Int) (x y : Nat) (w : World) :
  Calls Tryz.prog 125 #[.agg #[.int .i64 k, .int .i64 i, .float .f64 x, .float .f64 y]] w fun e w' => e = .returned (.bool (okB k i x y)) ∧ w' = w.alloc (.cells #[.int .i64 k, .int .i64 i, .float .f64 x, .float .f64 y] 75) := by
 by_cases h1 : k = 1
 ·
  subst h1
  cases hp : plusB x
  all_goals
   go_enter Tryz.func125, Tryz.ntmps125
   go_wp2_with (go_at_call 141; refine (plusZero_any _ _).mono ?_; rintro e w' ⟨rfl, rfl⟩)
   go_ret; exact ⟨ret_bool (by simp [okB, hp]), rfl⟩
 by_cases h2 : k = 2
 ·
  subst h2
  cases hp : ((i == 0) : Bool)
  all_goals
   go_enter Tryz.func125, Tryz.ntmps125
   go_wp2_with (go_at_call 141; refine (plusZero_any _ _).mono ?_; rintro e w' ⟨rfl, rfl⟩)
   go_ret; exact ⟨ret_bool (by simp [okB, hp]), rfl⟩
 by_cases h3 : k = 3
 ·
  subst h3
  go_enter Tryz.func125, Tryz.ntmps125
  go_wp2_with (go_at_call 141; refine (plusZero_any _ _).mono ?_; rintro e w' ⟨rfl, rfl⟩)
  go_ret; exact ⟨ret_bool (by simp [okB]), rfl⟩
 by_cases h4 : k = 4
 ·
  subst h4
  cases ha : ((i == 0) : Bool) <;> cases hb : ((i == 1) : Bool) <;> cases hp : plusB x
  all_goals
   go_enter Tryz.func125, Tryz.ntmps125
   go_wp2_with (go_at_call 141; refine (plusZero_any _ _).mono ?_; rintro e w' ⟨rfl, rfl⟩)
   go_ret; exact ⟨ret_bool (by simp [okB, hp, ha, hb]), rfl⟩
 have g1 : (k == 1) = false := beq_eq_false_iff_ne.2 h1
 have g2 : (k == 2) = false := beq_eq_false_iff_ne.2 h2
 have g3 : (k == 3) = false := beq_eq_false_iff_ne.2 h3
 have g4 : (k == 4) = false := beq_eq_false_iff_ne.2 h4
 go_enter Tryz.func125, Tryz.ntmps125
 go_wp2_with (go_at_call 141; refine (plusZero_any _ _).mono ?_; rintro e w' ⟨rfl, rfl⟩)
 go_ret; exact ⟨ret_bool (by simp [okB, h1, h2, h3, h4]), rfl⟩
set_option maxHeartbeats 400000 in
theorem specOk_any (k i : Int) (x y : Nat) (w : World) (hx : x < 18446744073709551616) (hy : y < 18446744073709551616) :
  Calls Tryz.prog 54 #[.agg #[.int .i64 k, .int .i64 i, .float .f64 x, .float .f64 y]] w fun e w' => e = .returned (.bool (okB k i x y)) ∧ w' = w.alloc (.cells #[.int .i64 k, .int .i64 i, .float .f64 x, .float .f64 y] 75) := by
 by_cases h1 : k = 1
 ·
  subst h1
  cases hp : plusB x
  all_goals
   go_enter Tryz.func54, Tryz.ntmps54
   go_wp2_with (go_at_call 92; refine (l1Plus_any _ _ (by assumption)).mono ?_; rintro e w' ⟨rfl, rfl⟩)
   go_ret; exact ⟨ret_bool (by simp [okB, hp]), rfl⟩
 by_cases h2 : k = 2
 ·
  subst h2
  cases hp : ((i == 0) : Bool)
  all_goals
   go_enter Tryz.func54, Tryz.ntmps54
   go_wp2_with (go_at_call 92; refine (l1Plus_any _ _ (by assumption)).mono ?_; rintro e w' ⟨rfl, rfl⟩)
   go_ret; exact ⟨ret_bool (by simp [okB, hp]), rfl⟩
 by_cases h3 : k = 3
 ·
  subst h3
  go_enter Tryz.func54, Tryz.ntmps54
  go_wp2_with (go_at_call 92; refine (l1Plus_any _ _ (by assumption)).mono ?_; rintro e w' ⟨rfl, rfl⟩)
  go_ret; exact ⟨ret_bool (by simp [okB]), rfl⟩
 by_cases h4 : k = 4
 ·
  subst h4
  cases ha : ((i == 0) : Bool) <;> cases hb : ((i == 1) : Bool) <;> cases hp : plusB x
  all_goals
   go_enter Tryz.func54, Tryz.ntmps54
   go_wp2_with (go_at_call 92; refine (l1Plus_any _ _ (by assumption)).mono ?_; rintro e w' ⟨rfl, rfl⟩)
   go_ret; exact ⟨ret_bool (by simp [okB, hp, ha, hb]), rfl⟩
 have g1 : (k == 1) = false := beq_eq_false_iff_ne.2 h1
 have g2 : (k == 2) = false := beq_eq_false_iff_ne.2 h2
 have g3 : (k == 3) = false := beq_eq_false_iff_ne.2 h3
 have g4 : (k == 4) = false := beq_eq_false_iff_ne.2 h4
 go_enter Tryz.func54, Tryz.ntmps54
 go_wp2_with (go_at_call 92; refine (l1Plus_any _ _ (by assumption)).mono ?_; rintro e w' ⟨rfl, rfl⟩)
 go_ret; exact ⟨ret_bool (by simp [okB, h1, h2, h3, h4]), rfl⟩
end
section
open Go.RowKit
theorem bl_trans {a b c : World} (h : Below a.heap.size a b) (k : Below b.heap.size b c) : Below a.heap.size a c := h.trans (k.mono h.size)
theorem bl_setCell {a b : World} (h : Below a.heap.size a b) {q : Addr} (hq : a.heap.size ≤ q.block) (u : Value) : Below a.heap.size a (b.setCell q u) := h.setCell hq u
theorem bl_alloc {a b : World} (h : Below a.heap.size a b) (o : Obj) : Below a.heap.size a (b.alloc o) := h.alloc h.size o
theorem bl_drew {a b : World} (h : Below a.heap.size a b) : Below a.heap.size a b.drew := h.drew
theorem bl_drewN {a b : World} (h : Below a.heap.size a b) (n : Nat) : Below a.heap.size a (b.drewN n) := ⟨h.os, h.tape, h.output, h.size, h.block⟩
end
section
open Go.RowKit
def Ints (w : World) (sl : Option Addr) (G : List Int) : Prop :=
 G = [] ∨ ∃ pb po, sl = some ⟨pb, po, none⟩ ∧ pb < w.heap.size ∧ ∀ j, j < G.length → w.cell? ⟨pb, po + j, none⟩ = some (.int .i64 (G.getD j 0))
theorem Ints.later {w w' : World} {sl : Option Addr} {G : List Int} (h : Ints w sl G) (hb : Below w.heap.size w w') : Ints w' sl G := by
 rcases h with h0 | ⟨pb, po, h0, h1, h2⟩
 ·
  exact Or.inl h0
 exact Or.inr ⟨pb, po, h0, Nat.lt_of_lt_of_le h1 hb.size, fun j hj => (hb.cell (p := ⟨pb, po + j, none⟩) h1).trans (h2 j hj)⟩
def Row (w : World) (B : Nat) (sl : Option Addr) (n cap : Nat) (G : List Int) : Prop :=
 w.ownsRow B 3 1 (.slice sl n cap) n (G.map (Value.int .i64))
theorem Row.ints {w : World} {B n cap : Nat} {sl : Option Addr} {G : List Int} (h : Row w B sl n cap G) : Ints w sl G ∧ n = G.length := by
 have hl : n = G.length := by have := h.1; simp at this; omega
 refine ⟨?_, hl⟩
 rcases h.2 with ⟨h', h0⟩ | ⟨g, cap', cur, h', hb, hg, r⟩
 ·
  left
  exact List.length_eq_zero_iff.1 (by omega)
 right
 simp only [Value.slice.injEq] at h'
 obtain ⟨rfl, -, rfl⟩ := h'
 refine ⟨g, 0, rfl, (Array.getElem?_eq_some_iff.1 hg).1, fun j hj => ?_⟩
 rw [Nat.zero_add, World.ownsRow.cellAt h j (by omega)]
 simp [hj]
def okE (G F : List Int) : Bool := decide (G.length ≤ 2000 ∧ (∀ g ∈ G, 0 ≤ g ∧ g ≤ 1000000) ∧ (∀ f ∈ F, 0 ≤ f ∧ f < G.length) ∧ F.Nodup)
def Bits (pre : List Nat) (once twice : List (BitVec 64)) : Prop :=
 once.length = 32 ∧ twice.length = 32 ∧ ∀ p, p < 2048 →
  (once.getD (p / 64) 0).getLsbD (p % 64) = decide (p ∈ pre) ∧ (twice.getD (p / 64) 0).getLsbD (p % 64) = decide (2 ≤ pre.count p)
theorem rep_getD (n i : Nat) : (List.replicate n (0 : BitVec 64)).getD i 0 = 0 := by
 by_cases h : i < n <;> simp [List.getD, h]
theorem bits_nil : Bits [] (List.replicate 32 0) (List.replicate 32 0) := by
 refine ⟨by simp, by simp, fun p hp => ?_⟩
 rw [rep_getD]; simp
theorem bit_lsb (n i : Nat) (hi : i < 64) : ((1#64) <<< n).getLsbD i = decide (i = n) := by
 simp only [BitVec.getLsbD_shiftLeft, BitVec.getLsbD_one]
 by_cases h : i = n
 ·
  subst h; simp [hi]
 simp [h, hi]; omega
theorem bits_step {pre : List Nat} {once twice : List (BitVec 64)} {q : Nat} (hq : q < 2048) (h : Bits pre once twice) :
  Bits (pre ++ [q]) (once.set (q / 64) (once.getD (q / 64) 0 ||| (1#64) <<< (q % 64)))
   (twice.set (q / 64) (twice.getD (q / 64) 0 ||| (once.getD (q / 64) 0 &&& (1#64) <<< (q % 64)))) := by
 obtain ⟨h1, h2, h3⟩ := h
 refine ⟨by simp [h1], by simp [h2], fun p hp => ?_⟩
 obtain ⟨a, b⟩ := h3 p hp
 have l1 : q / 64 < once.length := by omega
 have l2 : q / 64 < twice.length := by omega
 have l3 : p % 64 < 64 := Nat.mod_lt _ (by omega)
 by_cases e : q / 64 = p / 64
 ·
  have c1 : (once.set (q / 64) (once.getD (q / 64) 0 ||| (1#64) <<< (q % 64))).getD (p / 64) 0 = once.getD (p / 64) 0 ||| (1#64) <<< (q % 64) := by
   rw [← e]; simp [List.getD, l1]
  have c2 : (twice.set (q / 64) (twice.getD (q / 64) 0 ||| (once.getD (q / 64) 0 &&& (1#64) <<< (q % 64)))).getD (p / 64) 0 = twice.getD (p / 64) 0 ||| (once.getD (p / 64) 0 &&& (1#64) <<< (q % 64)) := by
   rw [← e]; simp [List.getD, l2]
  rw [c1, c2, BitVec.getLsbD_or, BitVec.getLsbD_or, BitVec.getLsbD_and, a, b, bit_lsb _ _ l3]
  by_cases f : p = q
  ·
   subst f
   by_cases m : p ∈ pre
   ·
    have := List.count_pos_iff.2 m
    simp [m]
   have := List.count_eq_zero_of_not_mem m
   simp [m, this]
  have g : ¬ p % 64 = q % 64 := by omega
  have k : List.count p [q] = 0 := by simp [Ne.symm f]
  simp [f, g, List.count_append, k]
 have c1 : ∀ x, (once.set (q / 64) x).getD (p / 64) 0 = once.getD (p / 64) 0 := by intro x; simp [List.getD, List.getElem?_set_ne e]
 have c2 : ∀ x, (twice.set (q / 64) x).getD (p / 64) 0 = twice.getD (p / 64) 0 := by intro x; simp [List.getD, List.getElem?_set_ne e]
 have f : ¬ p = q := by intro h; subst h; exact e rfl
 rw [c1, c2, a, b]
 simp [f, List.count_append]
 rw [List.count_cons]; simp [Ne.symm f]
theorem bits_end {pre : List Nat} {once twice : List (BitVec 64)} (hp : ∀ q ∈ pre, q < 2048) (h : Bits pre once twice) : twice = List.replicate 32 0 ↔ pre.Nodup := by
 obtain ⟨h1, h2, h3⟩ := h
 constructor
 ·
  intro e
  rw [List.nodup_iff_count]
  intro q
  by_cases m : q ∈ pre
  ·
   have := (h3 q (hp q m)).2
   rw [e] at this
   rw [rep_getD] at this
   simp at this
   omega
  have := List.count_eq_zero_of_not_mem m; omega
 intro e
 rw [List.nodup_iff_count] at e
 apply List.ext_getElem (by simp [h2])
 intro i g1 g2
 simp only [List.getElem_replicate]
 apply BitVec.eq_of_getLsbD_eq
 intro j hj
 have := (h3 (64 * i + j) (by omega)).2
 have d1 : (64 * i + j) / 64 = i := by omega
 have d2 : (64 * i + j) % 64 = j := by omega
 have d3 : ¬ 2 ≤ pre.count (64 * i + j) := by have := e (64 * i + j); omega
 rw [d1, d2] at this
 simp [List.getD, g1, d3] at this
 simpa using this
theorem nodup_bound : ∀ (n : Nat) (l : List Nat), l.Nodup → (∀ q ∈ l, q < n) → l.length ≤ n := by
 intro n
 induction n with
 | zero =>
  intro l _ hb
  match l, hb with
  | [], _ => simp
  | q :: t, hb => exact absurd (hb q (by simp)) (by omega)
 | succ n ih =>
  intro l hn hb
  have h := ih (l.erase n) (hn.erase n) (fun q hq => by
   have h1 := hb q (List.mem_of_mem_erase hq)
   have h2 : q ≠ n := by
    intro e; subst e
    exact absurd hq (by simpa using hn.not_mem_erase)
   omega)
  have := List.length_erase (a := n) (l := l)
  split at this <;> omega
theorem take_succ' (F : List Int) (k : Nat) (h : k < F.length) : F.take (k + 1) = F.take k ++ [F[k]?.getD 0] := by
 rw [List.take_add_one, List.getElem?_eq_getElem h]; rfl
theorem getD_mem {F : List Int} {k : Nat} (h : k < F.length) : F[k]?.getD 0 ∈ F := by
 rw [List.getElem?_eq_getElem h]; exact List.getElem_mem h
def freeB (F : List Int) (n : Nat) : Bool := decide ((∀ f ∈ F, 0 ≤ f ∧ f < n) ∧ F.Nodup)
def gensB (G : List Int) : Bool := decide (∀ g ∈ G, 0 ≤ g ∧ g ≤ 1000000)
theorem okE_eq (G F : List Int) : okE G F = (decide (G.length ≤ 2000) && gensB G && freeB F G.length) := by
 unfold okE gensB freeB
 rw [Bool.eq_iff_iff]; simp [and_assoc]
theorem nodup_nat {F : List Int} (h : ∀ f ∈ F, 0 ≤ f) : (F.map Int.toNat).Nodup ↔ F.Nodup := by
 constructor
 ·
  intro g
  unfold List.Nodup at g ⊢
  rw [List.pairwise_map] at g
  exact g.imp (fun {a b} hab e => hab (by rw [e]))
 intro g
 unfold List.Nodup at g ⊢
 rw [List.pairwise_map]
 exact List.Pairwise.imp_of_mem (fun {a b} ha hb hab => by have := h a ha; have := h b hb; omega) g
theorem free_len {F : List Int} {n : Nat} (h : freeB F n = true) : F.length ≤ n := by
 simp only [freeB, decide_eq_true_eq] at h
 have := nodup_bound n (F.map Int.toNat) ((nodup_nat fun f hf => (h.1 f hf).1).2 h.2) (fun q hq => by
  obtain ⟨f, hf, rfl⟩ := List.mem_map.1 hq
  have := h.1 f hf; omega)
 simpa using this
end
section
open Go.RowKit
theorem blq {B : Nat} {w w' : World} (h : Below B w w' := by (repeat (first | with_reducible exact Below.refl _ _ | with_reducible refine bl_alloc ?_ _ | with_reducible refine bl_drewN ?_ _ | with_reducible refine bl_drew ?_ | with_reducible refine bl_setCell ?_ (by first | exact Nat.le_refl _ | (dsimp only; omega) | (simp <;> omega)) _ | with_reducible refine bl_trans ?_ (by with_reducible assumption)))) : Below B w w' := h
end
end Go.Proofs.YtbgeobpdojmdaaaGreat
