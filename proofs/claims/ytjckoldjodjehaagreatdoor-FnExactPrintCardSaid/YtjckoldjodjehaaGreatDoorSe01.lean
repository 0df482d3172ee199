import Derived.Laws.FloatArith
import Derived.Deep.Draws
import Derived.Test.YtjckoldjodjehaaGreatDoorRows
import Derived.WalkKit
import Derived.WalkSpells
import Derived.WalkLawsBesides
import Derived.Laws.Externs
import Derived.Deep.RegionWith
import Derived.Deep.DeepCutAuto
import Derived.ProofKit
import Derived.OpenShut
import Derived.ChangeOld
import Derived.Lib.SmallJoins
import Derived.Laws.OwnMore
import Derived.ChangeKeysEq
import Derived.Deep.QuietTactic
import Derived.BigQuiet
import Derived.Deep.RegionHeld3
import Derived.Maps.AppendAt
import Derived.Laws.Slices
namespace Go.Proofs.YtjckoldjodjehaaGreatDoor
set_option linter.unusedVariables false
set_option linter.unusedSimpArgs false
section
open Ieee
def nanB (x : Nat) : Bool := (double.read x).isNaN
theorem sw : double.signWeight = 9223372036854775808 := by decide +kernel
theorem bn : double.binade = 4503599627370496 := by decide +kernel
theorem ir : double.infRung = 9218868437227405312 := by decide +kernel
theorem lp : double.leastPlace = -1074 := by decide +kernel
theorem read_def (x : Nat) : double.read x =
  if x % 9223372036854775808 < 4503599627370496 then .number (x / 9223372036854775808 % 2 == 1) (x % 9223372036854775808) (-1074)
  else if x % 9223372036854775808 < 9218868437227405312 then
   .number (x / 9223372036854775808 % 2 == 1) (4503599627370496 + x % 9223372036854775808 % 4503599627370496) (-1074 + (x % 9223372036854775808 / 4503599627370496 - 1 : Nat))
  else if x % 9223372036854775808 = 9218868437227405312 then .infinity (x / 9223372036854775808 % 2 == 1)
  else .nan (x / 9223372036854775808 % 2 == 1) (x % 9223372036854775808 - 9218868437227405312) := by
 unfold Format.read
 rw [sw, bn, ir, lp]
theorem nanB_def (x : Nat) : nanB x = decide (9218868437227405312 < x % 9223372036854775808) := by
 unfold nanB
 rw [read_def]
 split
 ·
  rw [eq_comm, show (Datum.number _ _ _).isNaN = false from rfl, decide_eq_false_iff_not]; omega
 split
 ·
  rw [eq_comm, show (Datum.number _ _ _).isNaN = false from rfl, decide_eq_false_iff_not]; omega
 split
 ·
  rw [eq_comm, show (Datum.infinity _).isNaN = false from rfl, decide_eq_false_iff_not]; omega
 rw [eq_comm, show (Datum.nan _ _).isNaN = true from rfl, decide_eq_true_eq]; omega
def Form (x : Nat) (d : Datum) : Prop :=
 (x % 9223372036854775808 = 9218868437227405312 ∧ d = .infinity (x / 9223372036854775808 % 2 == 1)) ∨
 ∃ m k : Nat, m < 9007199254740992 ∧ (k = 0 ∨ 4503599627370496 ≤ m) ∧ x % 9223372036854775808 = k * 4503599627370496 + m ∧ k < 2046 ∧ d = .number (x / 9223372036854775808 % 2 == 1) m (-1074 + (k : Int))
theorem form_of (x : Nat) (h : nanB x = false) : Form x (double.read x) := by
 rw [nanB_def, decide_eq_false_iff_not] at h
 rw [read_def]
 split
 ·
  exact Or.inr ⟨_, 0, by omega, Or.inl rfl, by omega, by omega, rfl⟩
 split
 ·
  exact Or.inr ⟨_, _, by omega, Or.inr (by omega), by omega, by omega, rfl⟩
 rw [if_pos (by omega)]
 exact Or.inl ⟨by omega, rfl⟩
def plusB (x : Nat) : Bool := x == 0
def sameB (x y : Nat) : Bool := if nanB x || nanB y then nanB x && nanB y else x == y
theorem sameB_refl (x : Nat) : sameB x x = true := by
 unfold sameB; cases nanB x <;> simp
def Is (o : Option Nat) (x : Nat) : Prop := x < 18446744073709551616 ∧ (o = some x ∨ (o = none ∧ nanB x = true))
theorem Is.same {o : Option Nat} {x y : Nat} (hx : Is o x) (hy : Is o y) : sameB x y = true := by
 rcases hx.2 with h | ⟨h, a⟩ <;> rcases hy.2 with g | ⟨g, b⟩
 ·
  rw [h] at g; cases g; exact sameB_refl _
 ·
  rw [h] at g; cases g
 ·
  rw [h] at g; cases g
 unfold sameB; simp [a, b]
end
section
open Go.RowKit
@[go_sem] theorem run_store_float (P : Program) (w : World) (a : Addr) (m : Mode) (k : FloatKind) (x : Nat) : (store a (.float k x) m).run P w = stored P w a (.float k x) m := run_store P w a _ m rfl
theorem bits_run (x : Nat) (w : World) : (callFunc 115 #[.float .f64 x]).run Tryz.prog w = .ok (.value (.int .u64 x)) w := by
 rw [run_callFunc_extern (e := Extern.MathFloatBits.float64bits) Tryz.func115 (by kernel_rfl) (by kernel_rfl) (by kernel_rfl) (by kernel_rfl)]
 rfl
theorem cast_zero (x : Nat) : ((x : Int) == 0) = plusB x := by
 unfold plusB; rw [Bool.eq_iff_iff]; simp
theorem ret_bool {a b : Bool} (h : a = b) : Ending.returned (.bool a) = .returned (.bool b) := by rw [h]
set_option maxHeartbeats 400000 in
theorem plusZero_any (x : Nat) (w : World) :
  Calls Tryz.prog 101 #[.float .f64 x] w fun e w' => e = .returned (.bool (plusB x)) ∧ w' = w := by
 have hb := bits_run
 go_enter Tryz.func101, Tryz.ntmps101
 go_wp2
 go_ret; exact ⟨ret_bool (cast_zero x), rfl⟩
end
section
open Go.RowKit
def okB (k i : Int) (x y : Nat) : Bool :=
 if k = 1 then plusB x && plusB y else if k = 2 then i == 0 && plusB y else if k = 3 then i == 0
 else if k = 4 then (i == 0 || i == 1) && plusB x && plusB y else false
set_option maxHeartbeats 400000 in
theorem implOk_any (k i : Int) (x y : Nat) (w : World) :
  Calls Tryz.prog 85 #[.agg #[.int .i64 k, .int .i64 i, .float .f64 x, .float .f64 y]] w fun e w' => e = .returned (.bool (okB k i x y)) ∧ w' = w.alloc (.cells #[.int .i64 k, .int .i64 i, .float .f64 x, .float .f64 y] 97) := by
 by_cases h1 : k = 1
 ·
  subst h1
  cases hp : plusB x
  all_goals
   go_enter Tryz.func85, Tryz.ntmps85
   go_wp2_with (go_at_call 101; refine (plusZero_any _ _).mono ?_; rintro e w' ⟨rfl, rfl⟩)
   go_ret; exact ⟨ret_bool (by simp [okB, hp]), rfl⟩
 by_cases h2 : k = 2
 ·
  subst h2
  cases hp : ((i == 0) : Bool)
  all_goals
   go_enter Tryz.func85, Tryz.ntmps85
   go_wp2_with (go_at_call 101; refine (plusZero_any _ _).mono ?_; rintro e w' ⟨rfl, rfl⟩)
   go_ret; exact ⟨ret_bool (by simp [okB, hp]), rfl⟩
 by_cases h3 : k = 3
 ·
  subst h3
  go_enter Tryz.func85, Tryz.ntmps85
  go_wp2_with (go_at_call 101; refine (plusZero_any _ _).mono ?_; rintro e w' ⟨rfl, rfl⟩)
  go_ret; exact ⟨ret_bool (by simp [okB]), rfl⟩
 by_cases h4 : k = 4
 ·
  subst h4
  cases ha : ((i == 0) : Bool) <;> cases hb : ((i == 1) : Bool) <;> cases hp : plusB x
  all_goals
   go_enter Tryz.func85, Tryz.ntmps85
   go_wp2_with (go_at_call 101; refine (plusZero_any _ _).mono ?_; rintro e w' ⟨rfl, rfl⟩)
   go_ret; exact ⟨ret_bool (by simp [okB, hp, ha, hb]), rfl⟩
 have g1 : (k == 1) = false := beq_eq_false_iff_ne.2 h1
 have g2 : (k == 2) = false := beq_eq_false_iff_ne.2 h2
 have g3 : (k == 3) = false := beq_eq_false_iff_ne.2 h3
 have g4 : (k == 4) = false := beq_eq_false_iff_ne.2 h4
 go_enter Tryz.func85, Tryz.ntmps85
 go_wp2_with (go_at_call 101; refine (plusZero_any _ _).mono ?_; rintro e w' ⟨rfl, rfl⟩)
 go_ret; exact ⟨ret_bool (by simp [okB, h1, h2, h3, h4]), rfl⟩
end
section
open Go.RowKit
theorem bl_trans {a b c : World} (h : Below a.heap.size a b) (k : Below b.heap.size b c) : Below a.heap.size a c := h.trans (k.mono h.size)
theorem bl_setCell {a b : World} (h : Below a.heap.size a b) {q : Addr} (hq : a.heap.size ≤ q.block) (u : Value) : Below a.heap.size a (b.setCell q u) := h.setCell hq u
theorem bl_alloc {a b : World} (h : Below a.heap.size a b) (o : Obj) : Below a.heap.size a (b.alloc o) := h.alloc h.size o
theorem bl_drew {a b : World} (h : Below a.heap.size a b) : Below a.heap.size a b.drew := h.drew
theorem bl_drewN {a b : World} (h : Below a.heap.size a b) (n : Nat) : Below a.heap.size a (b.drewN n) := ⟨h.os, h.tape, h.output, h.size, h.block⟩
end
section
open Go.ChangeShapes Go.WideShapes Go.ChangeAt Go.RowKit Go.Joins
set_option maxRecDepth 100000
theorem Tryz.own : ownKnob Tryz.prog.godebug = none := by kernel_rfl
theorem Tryz.laidOut : laidOutB Tryz.prog = true := by kernel_rfl
section
variable {H : Type} {enc : TypeId × Value → H} {w : World} {base : Nat} {spare : Nat → Bool} {held : Bool}
end
end
section
open Go.RowKit
def Ints (w : World) (sl : Option Addr) (G : List Int) : Prop :=
 G = [] ∨ ∃ pb po, sl = some ⟨pb, po, none⟩ ∧ pb < w.heap.size ∧ ∀ j, j < G.length → w.cell? ⟨pb, po + j, none⟩ = some (.int .i64 (G.getD j 0))
theorem Ints.later {w w' : World} {sl : Option Addr} {G : List Int} (h : Ints w sl G) (hb : Below w.heap.size w w') : Ints w' sl G := by
 rcases h with h0 | ⟨pb, po, h0, h1, h2⟩
 ·
  exact Or.inl h0
 exact Or.inr ⟨pb, po, h0, Nat.lt_of_lt_of_le h1 hb.size, fun j hj => (hb.cell (p := ⟨pb, po + j, none⟩) h1).trans (h2 j hj)⟩
def Row (w : World) (B : Nat) (sl : Option Addr) (n cap : Nat) (G : List Int) : Prop :=
 w.ownsRow B 3 1 (.slice sl n cap) n (G.map (Value.int .i64))
theorem Row.ints {w : World} {B n cap : Nat} {sl : Option Addr} {G : List Int} (h : Row w B sl n cap G) : Ints w sl G ∧ n = G.length := by
 have hl : n = G.length := by have := h.1; simp at this; omega
 refine ⟨?_, hl⟩
 rcases h.2 with ⟨h', h0⟩ | ⟨g, cap', cur, h', hb, hg, r⟩
 ·
  left
  exact List.length_eq_zero_iff.1 (by omega)
 right
 simp only [Value.slice.injEq] at h'
 obtain ⟨rfl, -, rfl⟩ := h'
 refine ⟨g, 0, rfl, (Array.getElem?_eq_some_iff.1 hg).1, fun j hj => ?_⟩
 rw [Nat.zero_add, World.ownsRow.cellAt h j (by omega)]
 simp [hj]
theorem take_succ' (F : List Int) (k : Nat) (h : k < F.length) : F.take (k + 1) = F.take k ++ [F[k]?.getD 0] := by
 rw [List.take_add_one, List.getElem?_eq_getElem h]; rfl
end
section
open Go.RowKit
theorem ret_bool' {a b : Bool} (h : a = b) : Ending.returned (.bool a) = .returned (.bool b) := by rw [h]
set_option maxHeartbeats 1000000 in
theorem szInts_neg (sl : Option Addr) (n cap : Nat) (left : Int) (w : World) (h0 : 0 ≤ left) (h1 : left ≤ 1048576) (hn : n ≤ 9223372036854775807) (h : left < n) :
  Calls Tryz.prog 10 #[.slice sl n cap, .int .i64 left] w fun e w' => e = .returned (.int .i64 (-1)) ∧ w' = w := by
 go_enter Tryz.func10, Tryz.ntmps10
 go_wp2
 go_ret; exact ⟨rfl, rfl⟩
set_option maxHeartbeats 1000000 in
theorem szInts_pos (sl : Option Addr) (n cap : Nat) (left : Int) (w : World) (h0 : 0 ≤ left) (h1 : left ≤ 1048576) (hn : n ≤ 9223372036854775807) (h : ¬ left < n) :
  Calls Tryz.prog 10 #[.slice sl n cap, .int .i64 left] w fun e w' => e = .returned (.int .i64 (left - n)) ∧ w' = w := by
 go_enter Tryz.func10, Tryz.ntmps10
 go_wp2
 go_ret; exact ⟨rfl, rfl⟩
theorem Tryz.infoI : (Tryz.prog.info? 3).map (fun i => (i.zero, i.size, i.bytes)) = some (some (.int .i64 0), 1, 8) := by kernel_rfl
def part (G : List Int) (k : Nat) : List Int := G.take k ++ List.replicate (G.length - k) 0
theorem part_zero (G : List Int) : part G 0 = List.replicate G.length 0 := by simp [part]
theorem part_all (G : List Int) : part G G.length = G := by simp [part]
theorem part_set (G : List Int) (k : Nat) (h : k < G.length) : (part G k).set k (G[k]?.getD 0) = part G (k + 1) := by
 unfold part
 rw [take_succ' G k h, List.set_append_right _ _ (by simp; omega)]
 have e : G.length - k = (G.length - (k + 1)) + 1 := by omega
 rw [e, List.replicate_succ, List.length_take, Nat.min_eq_left (by omega), Nat.sub_self, List.set_cons_zero]
 simp
theorem Row.set {w : World} {B g n cap : Nat} {G : List Int} (h : Row w B (some ⟨g, 0, none⟩) n cap G) (j : Nat) (x : Int) : Row (w.setCell ⟨g, j, none⟩ (.int .i64 x)) B (some ⟨g, 0, none⟩) n cap (G.set j x) := by
 have := (World.ownsRow.stored h j (.int .i64 x)).1
 unfold Row
 rw [List.map_set]; exact this
theorem Row.cell {w : World} {B g n cap : Nat} {G : List Int} (h : Row w B (some ⟨g, 0, none⟩) n cap G) (j : Nat) (hj : j < n) : w.cell? ⟨g, j, none⟩ = some (.int .i64 (G[j]?.getD 0)) ∧ w.frozen? ⟨g, j, none⟩ = false := by
 have hl : n = G.length := by have := h.1; simp at this; omega
 refine ⟨?_, World.ownsRow.frozenAt h j⟩
 rw [World.ownsRow.cellAt h j (by omega)]
 have : j < G.length := by omega
 simp [this]
theorem Ints.get {w : World} {sl : Option Addr} {G : List Int} (h : Ints w sl G) {k : Nat} (hk : k < G.length) :
  ∃ pb po, sl = some ⟨pb, po, none⟩ ∧ pb < w.heap.size ∧ ∀ j, j < G.length → w.cell? ⟨pb, po + j, none⟩ = some (.int .i64 (G[j]?.getD 0)) := by
 rcases h with h0 | ⟨pb, po, h0, h1, h2⟩
 ·
  subst h0; simp at hk
 exact ⟨pb, po, h0, h1, fun j hj => by rw [h2 j hj]; simp⟩
set_option maxHeartbeats 2000000 in
theorem toInts_any (sl : Option Addr) (cap : Nat) (G : List Int) (w : World) (hG : Ints w sl G) (hl : G.length ≤ 1048576) :
  Calls Tryz.prog 15 #[.slice sl G.length cap] w fun e w' => e = .returned (.slice (some ⟨w.heap.size, 0, none⟩) G.length G.length) ∧ Row w' w.heap.size (some ⟨w.heap.size, 0, none⟩) G.length G.length G ∧ Below w.heap.size w w' := by
 obtain ⟨i0, hi, hz0, hz1, hz2⟩ := info_parts Tryz.infoI
 go_enter Tryz.func15, Tryz.ntmps15
 go_wp2_with (at_make; refine wpList_make_full _ rfl _ _ 23 rfl w.heap.size 3 i0 (.int .i64 0) 1 Tryz.underlying23 hi hz0 hz1 .i64 .i64 _ _ G.length rfl rfl rfl rfl (by rw [hz2]; omega) (by unfold maxLen; omega) (Nat.le_refl _) ?_)
 intro w1 hown hgrow
 have hrow : Hid (Row w1 w.heap.size (some ⟨w.heap.size, 0, none⟩) G.length G.length (part G 0)) := by
  show World.ownsRow _ _ _ _ _ _ _
  rw [part_zero, List.map_replicate]
  rw [toList_madeCells_one] at hown
  exact hown
 have hbel : Hid (Below w.heap.size w w1) := (Below.refl _ w).grown hgrow (Nat.le_refl _) (fun k h => by cases h)
 clear hown hgrow hi hz0 hz1 hz2; go_wp2
 go_loopw [4] (fun i wr => ∃ k : Nat, k ≤ G.length ∧ i = .int .i64 k ∧ Hid (Row wr w.heap.size (some ⟨w.heap.size, 0, none⟩) G.length G.length (part G k)) ∧ Hid (Below w.heap.size w wr)) (fun i _ => G.length - (intOf i).toNat)
 case atStart => exact ⟨0, Nat.zero_le _, rfl, hrow, hbel⟩
 obtain ⟨k, hk, rfl, hrow, hbel⟩ := hrel
 by_cases hlt : k < G.length
 ·
  obtain ⟨pb, po, rfl, hp, hc⟩ := hG.get hlt
  obtain ⟨x, hx⟩ : ∃ x, Hid (G[k]?.getD 0 = x) := ⟨_, rfl⟩
  have c1 : wr.cell? ⟨pb, po + k, none⟩ = some (.int .i64 x) := by rw [← hx.out]; exact (hbel.out.cell (p := ⟨pb, po + k, none⟩) hp).trans (hc k hlt)
  obtain ⟨y, hy⟩ : ∃ y, wr.cell? ⟨w.heap.size, k, none⟩ = some (.int .i64 y) := ⟨_, (hrow.out.cell k hlt).1⟩
  have f2 := (hrow.out.cell k hlt).2
  clear hc hG; go_wp2
  go_roundw
  case rel =>
   refine ⟨k + 1, by omega, by go_num, ?_, ?_⟩
   ·
    have := hrow.out.set k x
    rw [← hx.out, part_set G k hlt, hx.out] at this
    exact this
   exact hbel.out.setCell (Nat.le_refl _) _
  case measure => simp [intOf]; omega
 have hk' : k = G.length := by omega
 go_wp2
 go_ret; have := hrow.out
 rw [hk', part_all] at this
 exact ⟨rfl, this, hbel.out⟩
end
section
open Go.RowKit
def Blk (w : World) (n : Nat) (c : Array Value) (t : TypeId) : Prop := w.heap[n]? = some (.cells c t (0, 0))
theorem Blk.lt {w : World} {n : Nat} {c : Array Value} {t : TypeId} (h : Blk w n c t) : n < w.heap.size := (Array.getElem?_eq_some_iff.1 h).1
theorem Blk.new (w : World) (c : Array Value) (t : TypeId) : Blk (w.alloc (.cells c t)) w.heap.size c t := heap_alloc_new w _
theorem Blk.new' (w : World) (c : Array Value) (t : TypeId) {n : Nat} (h : n = w.heap.size) : Blk (w.alloc (.cells c t)) n c t := by subst h; exact heap_alloc_new w _
theorem Blk.later {w w' : World} {n : Nat} {c : Array Value} {t : TypeId} (h : Blk w n c t) (hb : Below w.heap.size w w') : Blk w' n c t := by
 unfold Blk; rw [hb.block n h.lt]; exact h
theorem Blk.alloc {w : World} {n : Nat} {c : Array Value} {t : TypeId} (h : Blk w n c t) (o : Obj) : Blk (w.alloc o) n c t := h.later (bl_alloc (Below.refl _ w) o)
theorem Blk.set {w : World} {n : Nat} {c : Array Value} {t : TypeId} (h : Blk w n c t) (o : Nat) (u : Value) : Blk (w.setCell ⟨n, o, none⟩ u) n (c.setIfInBounds o u) t := heap_setCell_same w n o c t u h
theorem Blk.other {w : World} {n : Nat} {c : Array Value} {t : TypeId} (h : Blk w n c t) {m : Nat} (hm : ¬ n = m) (o : Nat) (u : Value) : Blk (w.setCell ⟨m, o, none⟩ u) n c t := by
 unfold Blk; rw [heap_setCell_other w ⟨m, o, none⟩ n u (fun e => hm (by simpa using e))]; exact h
theorem Blk.cell {w : World} {n : Nat} {c : Array Value} {t : TypeId} (h : Blk w n c t) (o : Nat) : w.cell? ⟨n, o, none⟩ = c[o]? := cell_of_row w n o c t (0, 0) h
theorem Blk.frozen {w : World} {n : Nat} {c : Array Value} {t : TypeId} (h : Blk w n c t) (o : Nat) : w.frozen? ⟨n, o, none⟩ = false := frozen_of_row w n o c t h
theorem Blk.two {w : World} {n : Nat} {a b : Value} {t : TypeId} (h : Blk w n #[a, b] t) : w.cell? ⟨n, 0, none⟩ = some a ∧ w.cell? ⟨n, 1, none⟩ = some b ∧ ∀ o, w.frozen? ⟨n, o, none⟩ = false := ⟨h.cell 0, h.cell 1, h.frozen⟩
end
section
open Go.RowKit
theorem Row.mono {w : World} {B B' : Nat} {sl : Option Addr} {n cap : Nat} {G : List Int} (h : Row w B sl n cap G) (hB : B' ≤ B) : Row w B' sl n cap G := by
 refine ⟨h.1, ?_⟩
 rcases h.2 with h' | ⟨g, cap', cur, h', hb, r⟩
 ·
  exact Or.inl h'
 exact Or.inr ⟨g, cap', cur, h', Nat.le_trans hB hb, r⟩
theorem Row.later {w w' : World} {B : Nat} {sl : Option Addr} {n cap : Nat} {G : List Int} (h : Row w B sl n cap G) (hb : Below w.heap.size w w') : Row w' B sl n cap G := by
 refine ⟨h.1, ?_⟩
 rcases h.2 with h' | ⟨g, cap', cur, h', hB, hg, r⟩
 ·
  exact Or.inl h'
 exact Or.inr ⟨g, cap', cur, h', hB, by rw [hb.block g (Array.getElem?_eq_some_iff.1 hg).1]; exact hg, r⟩
theorem Row.other {w : World} {B b : Nat} {g n cap : Nat} {G : List Int} (h : Row w B (some ⟨g, 0, none⟩) n cap G) (hb : ¬ g = b) (o : Nat) (u : Value) : Row (w.setCell ⟨b, o, none⟩ u) B (some ⟨g, 0, none⟩) n cap G := by
 refine ⟨h.1, ?_⟩
 rcases h.2 with h' | ⟨g', cap', cur, h', hB, hg, r⟩
 ·
  exact Or.inl h'
 simp only [Value.slice.injEq, Option.some.injEq, Addr.mk.injEq, and_true, true_and] at h'
 obtain ⟨rfl, rfl⟩ := h'
 exact Or.inr ⟨g, cap, cur, rfl, hB, by rw [Below.heap_setCell _ _ _ _ hb]; exact hg, r⟩
theorem Row.lt {w : World} {B : Nat} {g n cap : Nat} {G : List Int} (h : Row w B (some ⟨g, 0, none⟩) n cap G) : B ≤ g ∧ g < w.heap.size := by
 rcases h.2 with ⟨h', _⟩ | ⟨g', cap', cur, h', hB, hg, r⟩
 ·
  simp at h'
 simp only [Value.slice.injEq, Option.some.injEq, Addr.mk.injEq, and_true, true_and] at h'
 obtain ⟨rfl, rfl⟩ := h'
 exact ⟨hB, (Array.getElem?_eq_some_iff.1 hg).1⟩
theorem Ints.alloc {w : World} {sl : Option Addr} {G : List Int} (h : Ints w sl G) (o : Obj) : Ints (w.alloc o) sl G := h.later (bl_alloc (Below.refl _ w) o)
theorem bcell2 {W w1 : World} (hb : Below W.heap.size W w1) : (∀ b o, (W.cell? ⟨b, o, none⟩).isSome = true → w1.cell? ⟨b, o, none⟩ = W.cell? ⟨b, o, none⟩) ∧ (∀ b o, (W.cell? ⟨b, o, none⟩).isSome = true → w1.frozen? ⟨b, o, none⟩ = W.frozen? ⟨b, o, none⟩) := by
 refine ⟨fun b o h => ?_, fun b o h => ?_⟩
 ·
  obtain ⟨v, hv⟩ := Option.isSome_iff_exists.1 h
  exact hb.cell (p := ⟨b, o, none⟩) (World.block_lt_of_cell? _ _ hv)
 obtain ⟨v, hv⟩ := Option.isSome_iff_exists.1 h
 exact hb.frozen (p := ⟨b, o, none⟩) (World.block_lt_of_cell? _ _ hv)
theorem alloc_old (W : World) (ob : Obj) (b o : Nat) (h : (W.cell? ⟨b, o, none⟩).isSome = true) : (W.alloc ob).cell? ⟨b, o, none⟩ = W.cell? ⟨b, o, none⟩ :=
 (bcell2 (bl_alloc (Below.refl _ W) ob)).1 b o h
theorem alloc_oldf (W : World) (ob : Obj) (b o : Nat) (h : (W.cell? ⟨b, o, none⟩).isSome = true) : (W.alloc ob).frozen? ⟨b, o, none⟩ = W.frozen? ⟨b, o, none⟩ :=
 (bcell2 (bl_alloc (Below.refl _ W) ob)).2 b o h
def Rows2 (w : World) (B : Nat) (g f : Nat) (G F : List Int) : Prop :=
 Row w B (some ⟨g, 0, none⟩) G.length G.length G ∧ Row w B (some ⟨f, 0, none⟩) F.length F.length F ∧ ¬ g = f
theorem Rows2.later {w w' : World} {B g f : Nat} {G F : List Int} (h : Rows2 w B g f G F) (hb : Below w.heap.size w w') : Rows2 w' B g f G F := ⟨h.1.later hb, h.2.1.later hb, h.2.2⟩
theorem Rows2.mono {w : World} {B B' g f : Nat} {G F : List Int} (h : Rows2 w B g f G F) (hB : B' ≤ B) : Rows2 w B' g f G F := ⟨h.1.mono hB, h.2.1.mono hB, h.2.2⟩
theorem ext_getD {A B : List Int} (hl : A.length = B.length) (h : ∀ j, j < A.length → A[j]?.getD 0 = B[j]?.getD 0) : A = B := by
 apply List.ext_getElem hl
 intro j h1 h2
 have := h j h1
 simpa [h1, h2] using this
set_option maxHeartbeats 2000000 in
theorem eqInts_any (sA sB : Option Addr) (cA cB : Nat) (A B : List Int) (w : World) (hA : Ints w sA A) (hB : Ints w sB B) (l1 : A.length ≤ 1048576) :
  Calls Tryz.prog 23 #[.slice sA A.length cA, .slice sB B.length cB] w fun e w' => e = .returned (.bool (decide (A = B))) ∧ Below w.heap.size w w' := by
 by_cases hl : A.length = B.length
 ·
  go_enter Tryz.func23, Tryz.ntmps23
  go_wp2
  go_loopw [5] (fun i wr => ∃ k : Nat, k ≤ A.length ∧ i = .int .i64 k ∧ Hid (∀ j, j < k → A[j]?.getD 0 = B[j]?.getD 0) ∧ Hid (Below w.heap.size w wr)) (fun i _ => A.length - (intOf i).toNat)
  case atStart => exact ⟨0, Nat.zero_le _, rfl, fun j hj => absurd hj (by omega), Below.refl _ _⟩
  obtain ⟨k, hk, rfl, hall, hbel⟩ := hrel
  by_cases hlt : k < A.length
  ·
   obtain ⟨pb, po, rfl, hp, hc⟩ := hA.get hlt
   obtain ⟨qb, qo, rfl, hq, hd⟩ := hB.get (k := k) (by omega)
   obtain ⟨x, hx⟩ : ∃ x, Hid (A[k]?.getD 0 = x) := ⟨_, rfl⟩
   obtain ⟨y, hy⟩ : ∃ x, Hid (B[k]?.getD 0 = x) := ⟨_, rfl⟩
   have d1 : wr.cell? ⟨pb, po + k, none⟩ = some (.int .i64 x) := by rw [← hx.out]; exact (hbel.out.cell (p := ⟨pb, po + k, none⟩) hp).trans (hc k hlt)
   have d2 : wr.cell? ⟨qb, qo + k, none⟩ = some (.int .i64 y) := by rw [← hy.out]; exact (hbel.out.cell (p := ⟨qb, qo + k, none⟩) hq).trans (hd k (by omega))
   have hlt' : k < B.length := by omega
   clear hc hd hA hB; by_cases he : x = y
   ·
    have g : (x != y) = false := by simp [he]
    have hstep : Hid (∀ j, j < k + 1 → A[j]?.getD 0 = B[j]?.getD 0) := fun j hj => by
     by_cases h : j < k
     ·
      exact hall.out j h
     have : j = k := by omega
     subst this; rw [hx.out, hy.out, he]
    clear he hx hy; go_wp2
    go_region
    go_wp2
    go_roundw
    case rel => exact ⟨k + 1, by omega, by go_num, hstep, bl_drewN hbel.out _⟩
    case measure => simp [intOf]; omega
   have g : (x != y) = true := by simp [he]
   have hne : Hid (decide (A = B) = false) := by
    simp only [Hid, decide_eq_false_iff_not]
    intro h
    apply he
    rw [← hx.out, ← hy.out, h]
   clear he hx hy; go_wp2
   go_region
   go_wp2
   go_ret; exact ⟨ret_bool' hne.out.symm, bl_drewN hbel.out _⟩
  have hk' : k = A.length := by omega
  have hlt' : ¬ k < B.length := by omega
  have he : Hid (decide (A = B) = true) := by
   simp only [Hid, decide_eq_true_eq]
   exact ext_getD hl (fun j hj => hall.out j (by omega))
  clear hk'; go_wp2
  go_ret; exact ⟨ret_bool' he.out.symm, hbel.out⟩
 have hne : Hid (decide (A = B) = false) := by
  simp only [Hid, decide_eq_false_iff_not]
  intro h; exact hl (by rw [h])
 have g : ((A.length : Int) != (B.length : Int)) = true := by simp; omega
 clear hl; go_enter Tryz.func23, Tryz.ntmps23
 go_wp2
 go_ret; exact ⟨ret_bool' hne.out.symm, Below.refl _ _⟩
end
section
open Go.RowKit
set_option maxHeartbeats 1000000 in
theorem l1In_any (x lo hi : Int) (w : World) :
  Calls Tryz.prog 47 #[.int .i64 x, .int .i64 lo, .int .i64 hi] w fun e w' => e = .returned (.bool (decide (lo ≤ x) && decide (x ≤ hi))) ∧ w' = w := by
 by_cases h1 : lo ≤ x
 ·
  go_enter Tryz.func47, Tryz.ntmps47
  go_wp2
  go_ret; exact ⟨ret_bool' (by simp [h1]), rfl⟩
 go_enter Tryz.func47, Tryz.ntmps47
 go_wp2
 go_ret; exact ⟨ret_bool' (by simp; omega), rfl⟩
def Seen (w : World) (B sb n : Nat) (A : List Int) : Prop :=
 ∃ bs : List Bool, w.ownsRow B 4 1 (.slice (some ⟨sb, 0, none⟩) n n) n (bs.map Value.bool) ∧ ∀ p, p < n → bs[p]? = some (decide ((p : Int) ∈ A))
theorem Seen.new {w : World} {B sb n : Nat} (h : w.ownsRow B 4 1 (.slice (some ⟨sb, 0, none⟩) n n) n (List.replicate n (.bool false))) : Seen w B sb n [] :=
 ⟨List.replicate n false, by rw [List.map_replicate]; exact h, fun p hp => by simp [hp]⟩
theorem Seen.cell {w : World} {B sb n : Nat} {A : List Int} (h : Seen w B sb n A) {p : Nat} (hp : p < n) : w.cell? ⟨sb, p, none⟩ = some (.bool (decide ((p : Int) ∈ A))) ∧ w.frozen? ⟨sb, p, none⟩ = false := by
 obtain ⟨bs, h1, h2⟩ := h
 refine ⟨?_, World.ownsRow.frozenAt h1 p⟩
 rw [World.ownsRow.cellAt h1 p (by omega)]
 simp [h2 p hp]
theorem Seen.set {w : World} {B sb n : Nat} {A : List Int} (h : Seen w B sb n A) {p : Nat} (hp : p < n) : Seen (w.setCell ⟨sb, p, none⟩ (.bool true)) B sb n (A ++ [(p : Int)]) := by
 obtain ⟨bs, h1, h2⟩ := h
 have hl : bs.length = n := by have := h1.1; simp at this; exact this
 refine ⟨bs.set p true, by rw [List.map_set]; exact (World.ownsRow.stored h1 p _).1, fun q hq => ?_⟩
 by_cases e : p = q
 ·
  subst e; simp [hl, hp]
 rw [List.getElem?_set_ne e, h2 q hq]
 have : ¬ (q : Int) = (p : Int) := by omega
 simp [this]
theorem Tryz.infoB : (Tryz.prog.info? 4).map (fun i => (i.zero, i.size, i.bytes)) = some (some (.bool false), 1, 1) := by kernel_rfl
end
section
open Go.RowKit
theorem grown_of_below {w w' : World} (hb : Below w.heap.size w w') : w.grownBy w' none := ⟨hb.os, hb.tape, hb.output, hb.size, fun k hk _ => hb.block k hk⟩
theorem Blk.kept {w w' : World} {n b : Nat} {c : Array Value} {t : TypeId} (h : Blk w n c t) (hg : w.grownBy w' (some b)) (hn : ¬ n = b) : Blk w' n c t := by
 unfold Blk; rw [hg.block n h.lt (by simp; exact hn)]; exact h
theorem Row.kept {w w' : World} {B b g n cap : Nat} {G : List Int} (h : Row w B (some ⟨g, 0, none⟩) n cap G) (hg : w.grownBy w' (some b)) (hn : ¬ g = b) : Row w' B (some ⟨g, 0, none⟩) n cap G := World.ownsRow.kept h hg (Or.inr (by simp [Value.ownBlock]; exact hn))
theorem grown_below {w w' : World} {b : Nat} (hg : w.grownBy w' (some b)) {B : Nat} (h : B ≤ b) (hB : B ≤ w.heap.size) : Below B w w' :=
 ⟨hg.os, hg.tape, hg.output, hg.size, fun k hk => hg.block k (by omega) (by simp; omega)⟩
theorem grown_refl (w : World) (r : Option Nat) : w.grownBy w r := ⟨rfl, rfl, rfl, Nat.le_refl _, fun _ _ _ => rfl⟩
theorem grown_trans {a b c : World} {r : Option Nat} (h : a.grownBy b r) (g : b.grownBy c r) : a.grownBy c r :=
 ⟨g.os.trans h.os, g.tape.trans h.tape, g.output.trans h.output, Nat.le_trans h.size g.size, fun k hk hr => (g.block k (Nat.lt_of_lt_of_le hk h.size) hr).trans (h.block k hk hr)⟩
theorem Row.grown_set {w : World} {B g n cap : Nat} {G : List Int} (h : Row w B (some ⟨g, 0, none⟩) n cap G) (j : Nat) (x : Int) : w.grownBy (w.setCell ⟨g, j, none⟩ (.int .i64 x)) (some g) := (World.ownsRow.stored h j (.int .i64 x)).2
end
section
open Go.RowKit
def EList (w : World) (v : Value) (L : List (Int × Int)) : Prop :=
 (∃ s c, v = .slice s 0 c ∧ L = []) ∨ ∃ g c, v = .slice (some ⟨g, 0, none⟩) L.length c ∧ g < w.heap.size ∧ ∀ j, j < L.length → w.cell? ⟨g, j * 2, none⟩ = some (.int .i64 (L[j]?.getD (0, 0)).1) ∧ w.cell? ⟨g, j * 2 + 1, none⟩ = some (.int .i64 (L[j]?.getD (0, 0)).2)
theorem EList.later {w w' : World} {v : Value} {L : List (Int × Int)} (h : EList w v L) (hb : Below w.heap.size w w') : EList w' v L := by
 rcases h with h0 | ⟨g, c, rfl, h1, h2⟩
 ·
  exact Or.inl h0
 exact Or.inr ⟨g, c, rfl, Nat.lt_of_lt_of_le h1 hb.size, fun j hj => ⟨(hb.cell (p := ⟨g, j * 2, none⟩) h1).trans (h2 j hj).1, (hb.cell (p := ⟨g, j * 2 + 1, none⟩) h1).trans (h2 j hj).2⟩⟩
theorem EList.get {w : World} {v : Value} {L : List (Int × Int)} (h : EList w v L) {k : Nat} (hk : k < L.length) :
  ∃ g c, v = .slice (some ⟨g, 0, none⟩) L.length c ∧ ∀ w', Below w.heap.size w w' → w'.cell? ⟨g, k * 2, none⟩ = some (.int .i64 (L[k]?.getD (0, 0)).1) ∧ w'.cell? ⟨g, k * 2 + 1, none⟩ = some (.int .i64 (L[k]?.getD (0, 0)).2) := by
 rcases h with ⟨s, c, _, rfl⟩ | ⟨g, c, rfl, h1, h2⟩
 ·
  simp at hk
 exact ⟨g, c, rfl, fun w' hb => ⟨(hb.cell (p := ⟨g, k * 2, none⟩) h1).trans (h2 k hk).1, (hb.cell (p := ⟨g, k * 2 + 1, none⟩) h1).trans (h2 k hk).2⟩⟩
theorem EList.shape {w : World} {v : Value} {L : List (Int × Int)} (h : EList w v L) : ∃ s c, v = .slice s L.length c := by
 rcases h with ⟨s, c, rfl, rfl⟩ | ⟨g, c, rfl, _⟩
 ·
  exact ⟨s, c, rfl⟩
 exact ⟨_, c, rfl⟩
end
section
open Go.RowKit
def Kept (B : Nat) (w w' : World) : Prop := w.heap.size ≤ w'.heap.size ∧ ∀ k, B ≤ k → k < w.heap.size → w'.heap[k]? = w.heap[k]?
theorem Kept.refl (B : Nat) (w : World) : Kept B w w := ⟨Nat.le_refl _, fun _ _ _ => rfl⟩
theorem Kept.trans {B : Nat} {a b c : World} (h : Kept B a b) (g : Kept B b c) : Kept B a c :=
 ⟨Nat.le_trans h.1 g.1, fun k h1 h2 => (g.2 k h1 (Nat.lt_of_lt_of_le h2 h.1)).trans (h.2 k h1 h2)⟩
theorem Kept.of {w w' : World} (h : Below w.heap.size w w') (B : Nat) : Kept B w w' := ⟨h.size, fun k _ h2 => h.block k h2⟩
theorem Kept.set {B : Nat} (w : World) {p : Addr} (hp : p.block < B) (u : Value) : Kept B w (w.setCell p u) :=
 ⟨by simp, fun k h1 _ => Below.heap_setCell w p u k (by omega)⟩
theorem Kept.cell {B : Nat} {w w' : World} (h : Kept B w w') {b o : Nat} (hb : B ≤ b) (hl : b < w.heap.size) : w'.cell? ⟨b, o, none⟩ = w.cell? ⟨b, o, none⟩ :=
 World.cell?_of_block (w := w) (h.2 b hb hl)
abbrev V4 := Int × Int × Nat × Nat
abbrev E2 := Int × Int
structure Tab where
 cols : List Int
 rows : List E2
 cells : List (List V4)
structure Wd where
 gens : List Int
 free : List Int
 tabs : List Tab
 res : List V4
def Els {α : Type} (k : Nat) (E : World → Nat → List Value → α → Prop) (w : World) (B : Nat) (s : Option Addr) (L : List α) : Prop :=
 L = [] ∨ ∃ b o, s = some ⟨b, o, none⟩ ∧ B ≤ b ∧ b < w.heap.size ∧ (∀ j a, L[j]? = some a → ∃ cs, cs.length = k ∧ (∀ i u, cs[i]? = some u → w.cell? ⟨b, o + j * k + i, none⟩ = some u) ∧ E w B cs a) ∧ (0 < B → ∀ j, w.frozen? ⟨b, j, none⟩ = false)
def cInt (w : World) (B : Nat) (cs : List Value) (n : Int) : Prop := cs = [.int .i64 n]
def cEnt (w : World) (B : Nat) (cs : List Value) (p : E2) : Prop := cs = [.int .i64 p.1, .int .i64 p.2]
def okV (v : V4) : Prop := (-9223372036854775808 ≤ v.2.1 ∧ v.2.1 ≤ 9223372036854775807) ∧ v.2.2.1 < 18446744073709551616 ∧ v.2.2.2 < 18446744073709551616
def vcells (v : V4) : List Value := [.int .i64 v.1, .int .i64 v.2.1, .float .f64 v.2.2.1, .float .f64 v.2.2.2]
def cVal (w : World) (B : Nat) (cs : List Value) (v : V4) : Prop := cs = vcells v ∧ okV v
def cVals (w : World) (B : Nat) (cs : List Value) (L : List V4) : Prop := ∃ s c, cs = [.slice s L.length c] ∧ Els 4 cVal w B s L
def cTab (w : World) (B : Nat) (cs : List Value) (t : Tab) : Prop :=
 ∃ s1 c1 s2 c2 s3 c3, cs = [.slice s1 t.cols.length c1, .slice s2 t.rows.length c2, .slice s3 t.cells.length c3] ∧ Els 1 cInt w B s1 t.cols ∧ Els 2 cEnt w B s2 t.rows ∧ Els 1 cVals w B s3 t.cells
def KeepsE {α : Type} (E : World → Nat → List Value → α → Prop) : Prop := ∀ w w' B cs a, Kept B w w' → E w B cs a → E w' B cs a
def DropsE {α : Type} (E : World → Nat → List Value → α → Prop) : Prop := ∀ w B B' cs a, B' ≤ B → E w B cs a → E w B' cs a
theorem Els.kept {α : Type} {k : Nat} {E : World → Nat → List Value → α → Prop} (hE : KeepsE E) {w w' : World} {B : Nat} {s : Option Addr} {L : List α} (h : Els k E w B s L) (hk : Kept B w w') : Els k E w' B s L := by
 rcases h with h0 | ⟨b, o, rfl, h1, h2, h3, hz⟩
 ·
  exact Or.inl h0
 refine Or.inr ⟨b, o, rfl, h1, Nat.lt_of_lt_of_le h2 hk.1, fun j a ha => ?_, fun hB j => (World.frozen?_of_block (w := w) (a := ⟨b, j, none⟩) (hk.2 b h1 h2)).trans (hz hB j)⟩
 obtain ⟨cs, e1, e2, e3⟩ := h3 j a ha
 exact ⟨cs, e1, fun i u hu => (hk.cell h1 h2).trans (e2 i u hu), hE _ _ _ _ _ hk e3⟩
theorem Els.drop {α : Type} {k : Nat} {E : World → Nat → List Value → α → Prop} (hE : DropsE E) {w : World} {B B' : Nat} {s : Option Addr} {L : List α} (h : Els k E w B s L) (hB : B' ≤ B) : Els k E w B' s L := by
 rcases h with h0 | ⟨b, o, rfl, h1, h2, h3, hz⟩
 ·
  exact Or.inl h0
 refine Or.inr ⟨b, o, rfl, Nat.le_trans hB h1, h2, fun j a ha => ?_, fun h0 j => hz (by omega) j⟩
 obtain ⟨cs, e1, e2, e3⟩ := h3 j a ha
 exact ⟨cs, e1, e2, hE _ _ _ _ _ hB e3⟩
theorem Els.nil {α : Type} {k : Nat} {E : World → Nat → List Value → α → Prop} {w : World} {B : Nat} {s : Option Addr} : Els k E w B s ([] : List α) := Or.inl rfl
theorem cInt_keeps : KeepsE cInt := fun _ _ _ _ _ _ h => h
theorem cEnt_keeps : KeepsE cEnt := fun _ _ _ _ _ _ h => h
theorem cVal_keeps : KeepsE cVal := fun _ _ _ _ _ _ h => h
theorem cVals_keeps : KeepsE cVals := fun _ _ _ _ _ hk ⟨s, c, e, h⟩ => ⟨s, c, e, h.kept cVal_keeps hk⟩
theorem cTab_keeps : KeepsE cTab := fun _ _ _ _ _ hk ⟨s1, c1, s2, c2, s3, c3, e, h1, h2, h3⟩ => ⟨s1, c1, s2, c2, s3, c3, e, h1.kept cInt_keeps hk, h2.kept cEnt_keeps hk, h3.kept cVals_keeps hk⟩
theorem cInt_drops : DropsE cInt := fun _ _ _ _ _ _ h => h
theorem cEnt_drops : DropsE cEnt := fun _ _ _ _ _ _ h => h
theorem cVal_drops : DropsE cVal := fun _ _ _ _ _ _ h => h
theorem cVals_drops : DropsE cVals := fun _ _ _ _ _ hB ⟨s, c, e, h⟩ => ⟨s, c, e, h.drop cVal_drops hB⟩
theorem cTab_drops : DropsE cTab := fun _ _ _ _ _ hB ⟨s1, c1, s2, c2, s3, c3, e, h1, h2, h3⟩ => ⟨s1, c1, s2, c2, s3, c3, e, h1.drop cInt_drops hB, h2.drop cEnt_drops hB, h3.drop cVals_drops hB⟩
theorem eInt_cells {w : World} {B : Nat} {s : Option Addr} {L : List Int} (h : Els 1 cInt w B s L) {j : Nat} {a : Int} (ha : L[j]? = some a) :
  ∃ b o, s = some ⟨b, o, none⟩ ∧ B ≤ b ∧ b < w.heap.size ∧ w.cell? ⟨b, o + j, none⟩ = some (.int .i64 a) := by
 rcases h with rfl | ⟨b, o, rfl, h1, h2, h3, hz⟩
 ·
  simp at ha
 obtain ⟨cs, e1, e2, e3⟩ := h3 j a ha
 subst e3
 exact ⟨b, o, rfl, h1, h2, by simpa using e2 0 _ rfl⟩
theorem Els.ints {w : World} {B : Nat} {s : Option Addr} {L : List Int} (h : Els 1 cInt w B s L) : Ints w s L := by
 rcases h with h0 | ⟨b, o, rfl, h1, h2, h3, hz⟩
 ·
  exact Or.inl h0
 refine Or.inr ⟨b, o, rfl, h2, fun j hj => ?_⟩
 obtain ⟨cs, e1, e2, e3⟩ := h3 j (L[j]?.getD 0) (by simp [hj])
 subst e3
 have := e2 0 _ rfl
 rw [Nat.mul_one, Nat.add_zero] at this
 exact this
theorem Els.later {α : Type} {k : Nat} {E : World → Nat → List Value → α → Prop} (hE : KeepsE E) {w w' : World} {B : Nat} {s : Option Addr} {L : List α} (h : Els k E w B s L) (hb : Below w.heap.size w w') : Els k E w' B s L := h.kept hE (Kept.of hb B)
theorem flat_get {α : Type} {k : Nat} {f : α → List Value} (hf : ∀ a, (f a).length = k) : ∀ (L : List α) (j : Nat) (a : α), L[j]? = some a → ∀ i, i < k → (L.flatMap f)[j * k + i]? = (f a)[i]?
 | q :: L, 0, a, h, i, hi => by
  simp at h; subst h
  rw [List.flatMap_cons, List.getElem?_append_left (by rw [hf]; omega)]
  congr 1; omega
 | q :: L, j + 1, a, h, i, hi => by
  have := flat_get hf L j a (by simpa using h) i hi
  rw [List.flatMap_cons, List.getElem?_append_right (by rw [hf, Nat.succ_mul]; omega), hf, ← this]
  congr 1; rw [Nat.succ_mul]; omega
theorem set_mid (A M C : List Value) (i : Nat) (u : Value) (hi : i < M.length) : (A ++ (M ++ C)).set (A.length + i) u = A ++ (M.set i u ++ C) := by
 rw [List.set_append_right _ _ (by omega), show A.length + i - A.length = i by omega, List.set_append_left _ _ hi]
theorem els_of_row {α : Type} {k : Nat} {E : World → Nat → List Value → α → Prop} {f : α → List Value} (hf : ∀ a, (f a).length = k) {w : World} {B g cap : Nat} {T : TypeId} {L : List α} (h : w.ownsRow B T k (.slice (some ⟨g, 0, none⟩) L.length cap) L.length (L.flatMap f)) (hE : ∀ a ∈ L, E w B (f a) a) :
  Els k E w B (some ⟨g, 0, none⟩) L := by
 have hlt := World.ownsRow.lt h g rfl
 refine Or.inr ⟨g, 0, rfl, hlt.1, hlt.2, fun j a ha => ⟨f a, hf a, fun i u hu => ?_, hE a (List.mem_of_getElem? ha)⟩, fun _ j => World.ownsRow.frozenAt h j⟩
 have hi : i < k := by rw [← hf a]; exact (List.getElem?_eq_some_iff.1 hu).1
 have hj : j < L.length := (List.getElem?_eq_some_iff.1 ha).1
 have hx : (j + 1) * k ≤ L.length * k := Nat.mul_le_mul_right _ hj
 rw [Nat.succ_mul] at hx
 rw [Nat.zero_add, World.ownsRow.cellAt h (j * k + i) (by omega), flat_get hf L j a ha i hi, hu]
end
section
open Go.RowKit
def Szd (left : Int) (p : Prop) (e : Ending) : Prop := ∃ r : Int, e = .returned (.int .i64 r) ∧ (r = -1 ∨ (0 ≤ r ∧ r ≤ left ∧ p))
theorem szInts_gen (s : Option Addr) (n c : Nat) (left : Int) (w : World) (h0 : 0 ≤ left) (h1 : left ≤ 1048576) (hn : n ≤ 9223372036854775807) :
  Calls Tryz.prog 10 #[.slice s n c, .int .i64 left] w fun e w' => Szd left (n ≤ 1048576) e ∧ w' = w := by
 by_cases h : left < n
 ·
  exact (szInts_neg s n c left w h0 h1 hn h).mono fun e w' ⟨he, hw⟩ => ⟨⟨_, he, Or.inl rfl⟩, hw⟩
 exact (szInts_pos s n c left w h0 h1 hn h).mono fun e w' ⟨he, hw⟩ => ⟨⟨_, he, Or.inr ⟨by omega, by omega, by omega⟩⟩, hw⟩
theorem get_some {α : Type} {L : List α} {k : Nat} (h : k < L.length) : ∃ a, L[k]? = some a := ⟨L[k], by simp [h]⟩
structure InW (w : World) (B : Nat) (a1 a2 a3 a4 : Option Addr) (W : Wd) : Prop where
 g : Els 1 cInt w B a1 W.gens
 f : Els 1 cInt w B a2 W.free
 t : Els 3 cTab w B a3 W.tabs
 r : Els 4 cVal w B a4 W.res
theorem InW.kept {w w' : World} {B : Nat} {a1 a2 a3 a4 : Option Addr} {W : Wd} (h : InW w B a1 a2 a3 a4 W) (hk : Kept B w w') : InW w' B a1 a2 a3 a4 W :=
 ⟨h.g.kept cInt_keeps hk, h.f.kept cInt_keeps hk, h.t.kept cTab_keeps hk, h.r.kept cVal_keeps hk⟩
theorem InW.later {w w' : World} {B : Nat} {a1 a2 a3 a4 : Option Addr} {W : Wd} (h : InW w B a1 a2 a3 a4 W) (hb : Below w.heap.size w w') : InW w' B a1 a2 a3 a4 W := h.kept (Kept.of hb B)
theorem InW.drop {w : World} {B B' : Nat} {a1 a2 a3 a4 : Option Addr} {W : Wd} (h : InW w B a1 a2 a3 a4 W) (hB : B' ≤ B) : InW w B' a1 a2 a3 a4 W :=
 ⟨h.g.drop cInt_drops hB, h.f.drop cInt_drops hB, h.t.drop cTab_drops hB, h.r.drop cVal_drops hB⟩
end
section
open Go.RowKit
theorem flat_at {k : Nat} : ∀ (U : List (List Value)) (j : Nat) (c : List Value), (∀ c ∈ U, c.length = k) → U[j]? = some c → ∀ i, i < k → U.flatten[j * k + i]? = c[i]?
 | q :: U, 0, c, hU, h, i, hi => by
  simp at h; subst h
  rw [List.flatten_cons, List.getElem?_append_left (by rw [hU q (by simp)]; omega)]
  congr 1; omega
 | q :: U, j + 1, c, hU, h, i, hi => by
  have := flat_at U j c (fun c hc => hU c (by simp [hc])) (by simpa using h) i hi
  have hq := hU q (by simp)
  rw [List.flatten_cons, List.getElem?_append_right (by rw [hq, Nat.succ_mul]; omega), hq, ← this]
  congr 1; rw [Nat.succ_mul]; omega
theorem flat_size {k : Nat} : ∀ U : List (List Value), (∀ c ∈ U, c.length = k) → U.flatten.length = U.length * k
 | [], _ => by simp
 | q :: U, hU => by
  have := flat_size U (fun c hc => hU c (by simp [hc]))
  rw [List.flatten_cons, List.length_append, hU q (by simp), this, List.length_cons, Nat.succ_mul]; omega
def Mk {α : Type} (q : Nat) (E : World → Nat → List Value → α → Prop) (z : List Value) (T : TypeId) (w : World) (B g : Nat) (L : List α) (k : Nat) : Prop :=
 z.length = q ∧ k ≤ L.length ∧ ∃ U : List (List Value), U.length = k ∧ (∀ c ∈ U, c.length = q) ∧ (∀ (j : Nat) c a, U[j]? = some c → L[j]? = some a → E w (g + 1) c a) ∧ w.ownsRow B T q (.slice (some ⟨g, 0, none⟩) L.length L.length) L.length (U ++ List.replicate (L.length - k) z).flatten
theorem made_flat (z : Array Value) (n : Nat) : (madeCells z (n * z.size)).toList = (List.replicate n z.toList).flatten := by
 apply List.ext_getElem?
 intro j
 have hU : ∀ c ∈ List.replicate n z.toList, c.length = z.size := fun c hc => by rw [List.eq_of_mem_replicate hc]; simp
 by_cases hj : j < n * z.size
 ·
  have hz : 0 < z.size := by
   rcases Nat.eq_zero_or_pos z.size with h | h
   ·
    rw [h] at hj; omega
   exact h
  have hi : j / z.size < n := Nat.div_lt_of_lt_mul (by rw [Nat.mul_comm]; exact hj)
  have hm : j % z.size < z.size := Nat.mod_lt _ hz
  have := flat_at (k := z.size) (List.replicate n z.toList) (j / z.size) z.toList hU (by simp [hi]) (j % z.size) hm
  rw [Nat.mul_comm, Nat.div_add_mod] at this
  rw [this]
  simp [madeCells, hj, hm]
 rw [List.getElem?_eq_none (by simp [madeCells]; omega), List.getElem?_eq_none (by rw [flat_size _ hU]; simp; omega)]
theorem Mk.start {α : Type} {q : Nat} {E : World → Nat → List Value → α → Prop} {z : Array Value} {T : TypeId} {w : World} {B g : Nat} {L : List α} (hq : z.size = q) (h : w.ownsRow B T q (.slice (some ⟨g, 0, none⟩) L.length L.length) L.length (madeCells z (L.length * q)).toList) : Mk q E z.toList T w B g L 0 := by
 subst hq
 refine ⟨by simp, Nat.zero_le _, [], rfl, fun c hc => by simp at hc, fun j c a hc => by simp at hc, ?_⟩
 rw [made_flat] at h
 simpa using h
theorem Mk.later {α : Type} {q : Nat} {E : World → Nat → List Value → α → Prop} (hE : KeepsE E) {z : List Value} {T : TypeId} {w w' : World} {B g : Nat} {L : List α} {k : Nat} (h : Mk q E z T w B g L k) (hb : Below w.heap.size w w') : Mk q E z T w' B g L k := by
 obtain ⟨h1, h2, U, h3, h4, h5, h6⟩ := h
 refine ⟨h1, h2, U, h3, h4, fun j c a hc ha => hE _ _ _ _ _ (Kept.of hb _) (h5 j c a hc ha), ?_⟩
 refine World.ownsRow.kept h6 (grown_of_below hb) ?_
 cases (Value.slice (some ⟨g, 0, none⟩) L.length L.length).ownBlock with
 | none => exact Or.inl rfl
 | some b => exact Or.inr (by simp)
theorem Mk.at {α : Type} {q : Nat} {E : World → Nat → List Value → α → Prop} {z : List Value} {T : TypeId} {w : World} {B g : Nat} {L : List α} {k : Nat} (h : Mk q E z T w B g L k) (hk : k < L.length) : B ≤ g ∧ g < w.heap.size ∧ (∀ o, w.frozen? ⟨g, o, none⟩ = false) ∧ ∀ i u, z[i]? = some u → w.cell? ⟨g, k * q + i, none⟩ = some u := by
 obtain ⟨h1, h2, U, h3, h4, h5, h6⟩ := h
 have hlt := World.ownsRow.lt h6 g rfl
 refine ⟨hlt.1, hlt.2, fun o => World.ownsRow.frozenAt h6 o, fun i u hu => ?_⟩
 have hi : i < q := by rw [← h1]; exact (List.getElem?_eq_some_iff.1 hu).1
 have hx : (k + 1) * q ≤ L.length * q := Nat.mul_le_mul_right _ hk
 rw [Nat.succ_mul] at hx
 have hU : ∀ c ∈ U ++ List.replicate (L.length - k) z, c.length = q := by
  intro c hc
  rcases List.mem_append.1 hc with hc | hc
  ·
   exact h4 c hc
  rw [List.eq_of_mem_replicate hc]; exact h1
 have hz : (U ++ List.replicate (L.length - k) z)[k]? = some z := by
  rw [List.getElem?_append_right (by omega), h3, Nat.sub_self, List.getElem?_replicate, if_pos (by omega)]
 rw [World.ownsRow.cellAt h6 (k * q + i) (by omega), flat_at _ k z hU hz i hi, hu]
theorem Mk.push {α : Type} {q : Nat} {E : World → Nat → List Value → α → Prop} (hE : KeepsE E) {z c : List Value} {T : TypeId} {w w' : World} {B g : Nat} {L : List α} {k : Nat} {a : α} (h : Mk q E z T w B g L k) (hk : L[k]? = some a) (hc : c.length = q) (hEc : E w (g + 1) c a) (hkept : Kept (g + 1) w w')
  (hrow : ∀ A C : List Value, A.length = k * q → w.ownsRow B T q (.slice (some ⟨g, 0, none⟩) L.length L.length) L.length (A ++ (z ++ C)) → w'.ownsRow B T q (.slice (some ⟨g, 0, none⟩) L.length L.length) L.length (A ++ (c ++ C))) : Mk q E z T w' B g L (k + 1) := by
 obtain ⟨h1, h2, U, h3, h4, h5, h6⟩ := h
 have hlt : k < L.length := (List.getElem?_eq_some_iff.1 hk).1
 refine ⟨h1, hlt, U ++ [c], by simp [h3], ?_, ?_, ?_⟩
 ·
  intro d hd
  rcases List.mem_append.1 hd with hd | hd
  ·
   exact h4 d hd
  simp at hd; subst hd; exact hc
 ·
  intro j d b hd hb
  by_cases e : j < k
  ·
   rw [List.getElem?_append_left (by omega)] at hd
   exact hE _ _ _ _ _ hkept (h5 j d b hd hb)
  have ej : j = k := by
   have := (List.getElem?_eq_some_iff.1 hd).1
   simp [h3] at this; omega
  subst ej
  rw [hk] at hb
  cases hb
  rw [List.getElem?_append_right (by omega), h3] at hd
  simp at hd
  subst hd
  exact hE _ _ _ _ _ hkept hEc
 have e : L.length - k = (L.length - (k + 1)) + 1 := by omega
 rw [e, List.replicate_succ] at h6
 have := hrow U.flatten (List.replicate (L.length - (k + 1)) z).flatten (by rw [flat_size U h4, h3]) (by simpa using h6)
 simpa using this
theorem Mk.done {α : Type} {q : Nat} {E : World → Nat → List Value → α → Prop} (hD : DropsE E) {z : List Value} {T : TypeId} {w : World} {B g : Nat} {L : List α} (h : Mk q E z T w B g L L.length) : Els q E w g (some ⟨g, 0, none⟩) L := by
 obtain ⟨h1, h2, U, h3, h4, h5, h6⟩ := h
 have hlt := World.ownsRow.lt h6 g rfl
 rw [Nat.sub_self] at h6
 simp only [List.replicate_zero, List.append_nil] at h6
 refine Or.inr ⟨g, 0, rfl, Nat.le_refl _, hlt.2, fun j a ha => ?_, fun _ j => World.ownsRow.frozenAt h6 j⟩
 have hj : j < L.length := (List.getElem?_eq_some_iff.1 ha).1
 obtain ⟨c, hc⟩ := get_some (L := U) (k := j) (by omega)
 refine ⟨c, h4 c (List.mem_of_getElem? hc), fun i u hu => ?_, hD _ _ _ _ _ (Nat.le_succ g) (h5 j c a hc ha)⟩
 have hi : i < q := by rw [← h4 c (List.mem_of_getElem? hc)]; exact (List.getElem?_eq_some_iff.1 hu).1
 have hx : (j + 1) * q ≤ L.length * q := Nat.mul_le_mul_right _ hj
 rw [Nat.succ_mul] at hx
 rw [Nat.zero_add, World.ownsRow.cellAt h6 (j * q + i) (by omega), flat_at U j c h4 hc i hi, hu]
theorem put4 {w : World} {B g n k : Nat} {T : TypeId} {A C : List Value} {x0 x1 x2 x3 u0 u1 u2 u3 : Value} (hA : A.length = k * 4) (h : w.ownsRow B T 4 (.slice (some ⟨g, 0, none⟩) n n) n (A ++ ([x0, x1, x2, x3] ++ C))) : ((((w.setCell ⟨g, k * 4, none⟩ u0).setCell ⟨g, k * 4 + 1, none⟩ u1).setCell ⟨g, k * 4 + 2, none⟩ u2).setCell ⟨g, k * 4 + 3, none⟩ u3).ownsRow B T 4 (.slice (some ⟨g, 0, none⟩) n n) n (A ++ ([u0, u1, u2, u3] ++ C)) := by
 have h1 := (World.ownsRow.stored h (A.length + 0) u0).1
 rw [set_mid _ _ _ _ _ (by simp)] at h1
 have h2 := (World.ownsRow.stored h1 (A.length + 1) u1).1
 rw [set_mid _ _ _ _ _ (by simp)] at h2
 have h3 := (World.ownsRow.stored h2 (A.length + 2) u2).1
 rw [set_mid _ _ _ _ _ (by simp)] at h3
 have h4 := (World.ownsRow.stored h3 (A.length + 3) u3).1
 rw [set_mid _ _ _ _ _ (by simp), hA] at h4
 exact h4
end
section
open Go.RowKit
theorem Rows2.ints {w : World} {B g f : Nat} {G F : List Int} (h : Rows2 w B g f G F) : Ints w (some ⟨g, 0, none⟩) G ∧ Ints w (some ⟨f, 0, none⟩) F := ⟨h.1.ints.1, h.2.1.ints.1⟩
end
section
open Go.RowKit
theorem Blk.one {w : World} {n : Nat} {a b : Value} {t : TypeId} (h : Blk w n #[a, b] t) : w.cell? ⟨n, 0, none⟩ = some a ∧ w.cell? ⟨n, 1, none⟩ = some b := ⟨h.cell 0, h.cell 1⟩
end
section
open Go.RowKit
def Made {α : Type} (q : Nat) (E : World → Nat → List Value → α → Prop) (w : World) (L : List α) (e : Ending) (w' : World) : Prop :=
 ∃ g, e = .returned (.slice (some ⟨g, 0, none⟩) L.length L.length) ∧ w.heap.size ≤ g ∧ Els q E w' g (some ⟨g, 0, none⟩) L ∧ Below w.heap.size w w'
theorem row_els {w : World} {B g n cap : Nat} {G : List Int} (h : Row w B (some ⟨g, 0, none⟩) n cap G) : Els 1 cInt w g (some ⟨g, 0, none⟩) G := by
 have hl := h.ints.2
 refine Or.inr ⟨g, 0, rfl, Nat.le_refl _, h.lt.2, fun j a ha => ?_, fun _ j => World.ownsRow.frozenAt h j⟩
 have hj : j < G.length := (List.getElem?_eq_some_iff.1 ha).1
 refine ⟨[.int .i64 a], rfl, fun i u hu => ?_, rfl⟩
 have hi : i = 0 := by
  have := (List.getElem?_eq_some_iff.1 hu).1
  simp at this; exact this
 subst hi
 simp at hu
 subst hu
 have := (h.cell j (by omega)).1
 rw [ha] at this
 simpa using this
theorem toInts_made (s : Option Addr) (c : Nat) (L : List Int) (B : Nat) (w : World) (hL : Els 1 cInt w B s L) (hl : L.length ≤ 1048576) :
  Calls Tryz.prog 15 #[.slice s L.length c] w fun e w' => Made 1 cInt w L e w' :=
 (toInts_any s c L w hL.ints hl).mono fun e w' ⟨h1, h2, h3⟩ => ⟨_, h1, Nat.le_refl _, row_els h2, h3⟩
end
section
open Go.RowKit
theorem blk3t (w : World) (c d e : Array Value) (t u v : TypeId) : Blk (((w.alloc (.cells c t)).alloc (.cells d u)).alloc (.cells e v)) w.heap.size c t ∧ Blk (((w.alloc (.cells c t)).alloc (.cells d u)).alloc (.cells e v)) (w.heap.size + 1) d u ∧ Blk (((w.alloc (.cells c t)).alloc (.cells d u)).alloc (.cells e v)) (w.heap.size + 1 + 1) e v :=
 ⟨((Blk.new w c t).alloc _).alloc _, (Blk.new' _ d u (by simp)).alloc _, Blk.new' _ e v (by simp)⟩
theorem Blk.four' {w : World} {n : Nat} {a b c d : Value} {t : TypeId} (h : Blk w n #[a, b, c, d] t) : w.cell? ⟨n, 0, none⟩ = some a ∧ w.cell? ⟨n, 1, none⟩ = some b ∧ w.cell? ⟨n, 2, none⟩ = some c ∧ w.cell? ⟨n, 3, none⟩ = some d ∧ ∀ o, w.frozen? ⟨n, o, none⟩ = false := ⟨h.cell 0, h.cell 1, h.cell 2, h.cell 3, h.frozen⟩
end
section
open Go.RowKit
structure Nd where
 kind : Int
 text : ByteArray
 num : Int
 kids : List Int
structure Tre where
 nodes : List Nd
 tops : List Int
def okI (n : Int) : Prop := -9223372036854775808 ≤ n ∧ n ≤ 9223372036854775807
def cNode (w : World) (B : Nat) (cs : List Value) (n : Nd) : Prop := ∃ s c, cs = [.int .i64 n.kind, .string n.text, .int .i64 n.num, .slice s n.kids.length c] ∧ Els 1 cInt w B s n.kids
theorem cNode_keeps : KeepsE cNode := fun _ _ _ _ _ hk ⟨s, c, e, h⟩ => ⟨s, c, e, h.kept cInt_keeps hk⟩
theorem cNode_drops : DropsE cNode := fun _ _ _ _ _ hB ⟨s, c, e, h⟩ => ⟨s, c, e, h.drop cInt_drops hB⟩
theorem eNode_cells {w : World} {B : Nat} {s : Option Addr} {L : List Nd} (h : Els 4 cNode w B s L) {j : Nat} {n : Nd} (ha : L[j]? = some n) :
  ∃ b o, s = some ⟨b, o, none⟩ ∧ B ≤ b ∧ b < w.heap.size ∧ ∃ s' c', w.cell? ⟨b, o + j * 4, none⟩ = some (.int .i64 n.kind) ∧ w.cell? ⟨b, o + j * 4 + 1, none⟩ = some (.string n.text) ∧ w.cell? ⟨b, o + j * 4 + 2, none⟩ = some (.int .i64 n.num) ∧ w.cell? ⟨b, o + j * 4 + 3, none⟩ = some (.slice s' n.kids.length c') ∧ Els 1 cInt w B s' n.kids := by
 rcases h with rfl | ⟨b, o, rfl, h1, h2, h3, hz⟩
 ·
  simp at ha
 obtain ⟨cs, e1, e2, s', c', rfl, e5⟩ := h3 j n ha
 exact ⟨b, o, rfl, h1, h2, s', c', e2 0 _ rfl, e2 1 _ rfl, e2 2 _ rfl, e2 3 _ rfl, e5⟩
structure InT (w : World) (B : Nat) (s1 s2 : Option Addr) (t : Tre) : Prop where
 n : Els 4 cNode w B s1 t.nodes
 t : Els 1 cInt w B s2 t.tops
theorem InT.later {w w' : World} {B : Nat} {s1 s2 : Option Addr} {t : Tre} (h : InT w B s1 s2 t) (hb : Below w.heap.size w w') : InT w' B s1 s2 t := ⟨h.n.later cNode_keeps hb, h.t.later cInt_keeps hb⟩
theorem InT.kept {w w' : World} {B : Nat} {s1 s2 : Option Addr} {t : Tre} (h : InT w B s1 s2 t) (hb : Kept B w w') : InT w' B s1 s2 t := ⟨h.n.kept cNode_keeps hb, h.t.kept cInt_keeps hb⟩
theorem InT.drop {w : World} {B B' : Nat} {s1 s2 : Option Addr} {t : Tre} (h : InT w B s1 s2 t) (hB : B' ≤ B) : InT w B' s1 s2 t := ⟨h.n.drop cNode_drops hB, h.t.drop cInt_drops hB⟩
def mNode (n : Nd) : Prop := (okI n.kind ∧ okI n.num) ∧ n.text.size ≤ 9223372036854775807 ∧ n.kids.length ≤ 9223372036854775807 ∧ ∀ k ∈ n.kids, okI k
def mTre (t : Tre) : Prop := t.nodes.length ≤ 9223372036854775807 ∧ (∀ n ∈ t.nodes, mNode n) ∧ t.tops.length ≤ 9223372036854775807 ∧ ∀ k ∈ t.tops, okI k
def kNode (n : Nd) : Prop := n.text.size ≤ 1048576 ∧ n.kids.length ≤ 1048576
def kTre (t : Tre) : Prop := (t.nodes.length ≤ 1048576 ∧ ∀ n ∈ t.nodes, kNode n) ∧ t.tops.length ≤ 1048576
set_option maxHeartbeats 2000000 in
theorem szNode_gen (s : Option Addr) (cap : Nat) (n : Nd) (left : Int) (w : World) (h0 : 0 ≤ left) (h1 : left ≤ 1048576) (hn : mNode n) :
  Calls Tryz.prog 24 #[.agg #[.int .i64 n.kind, .string n.text, .int .i64 n.num, .slice s n.kids.length cap], .int .i64 left] w fun e w' => Szd left (kNode n) e ∧ Below w.heap.size w w' := by
 obtain ⟨_, ht, hk, _⟩ := hn
 have k0 := Blk.new w #[.int .i64 n.kind, .string n.text, .int .i64 n.num, .slice s n.kids.length cap] 62
 have L0 : Below w.heap.size w (w.alloc (.cells #[.int .i64 n.kind, .string n.text, .int .i64 n.num, .slice s n.kids.length cap] 62)) := bl_alloc (Below.refl _ _) _
 have x1 := k0.cell 1
 have x3 := k0.cell 3
 have tw : IntKind.i64.wrap (left - (n.text.size : Int)) = left - (n.text.size : Int) := by rw [IntKind.wrap_i64]; omega
 by_cases h : (n.text.size : Int) ≤ left
 ·
  have t1 : decide (left - (n.text.size : Int) < 0) = false := by simp; omega
  go_enter Tryz.func24, Tryz.ntmps24
  go_wp2_with fail; refine (szInts_gen s _ cap (left - (n.text.size : Int)) _ (by omega) (by omega) hk).mono ?_
  rintro e w' ⟨⟨r, rfl, hr⟩, rfl⟩
  rcases hr with rfl | ⟨r0, r1, rn⟩
  ·
   go_wp2_with fail; go_ret; exact ⟨⟨_, rfl, Or.inl rfl⟩, L0⟩
  have t1 : decide (r < 0) = false := by simp; omega
  go_wp2_with fail; go_ret; exact ⟨⟨_, rfl, Or.inr ⟨r0, by omega, by omega, rn⟩⟩, L0⟩
 have t1 : decide (left - (n.text.size : Int) < 0) = true := by simp; omega
 go_enter Tryz.func24, Tryz.ntmps24
 go_wp2_with fail; go_ret; exact ⟨⟨_, rfl, Or.inl rfl⟩, L0⟩
set_option maxHeartbeats 2000000 in
theorem szNodeS_gen (s : Option Addr) (c : Nat) (L : List Nd) (B : Nat) (left : Int) (w : World) (hL : Els 4 cNode w B s L) (hz : L.length ≤ 9223372036854775807) (hm : ∀ n ∈ L, mNode n) (h0 : 0 ≤ left) (h1 : left ≤ 1048576) :
  Calls Tryz.prog 9 #[.slice s L.length c, .int .i64 left] w fun e w' => Szd left (L.length ≤ 1048576 ∧ ∀ n ∈ L, kNode n) e ∧ Below w.heap.size w w' := by
 have HM : Hid (∀ n ∈ L, mNode n) := hm
 clear hm; have tw : IntKind.i64.wrap (left - (L.length : Int)) = left - (L.length : Int) := by rw [IntKind.wrap_i64]; omega
 by_cases h : (L.length : Int) ≤ left
 ·
  have t1 : decide (left - (L.length : Int) < 0) = false := by simp; omega
  have hl : L.length ≤ 1048576 := by omega
  go_enter Tryz.func9, Tryz.ntmps9
  go_wp2_with fail; clear tw t1; go_loopw [1, 5] (fun x i wr => ∃ (k : Nat) (r : Int), k ≤ L.length ∧ i = .int .i64 k ∧ x = .int .i64 r ∧ 0 ≤ r ∧ r ≤ left ∧ Hid (∀ j l, j < k → L[j]? = some l → kNode l) ∧ Below w.heap.size w wr) (fun _ i _ => L.length - (intOf i).toNat)
  case atStart => exact ⟨0, _, Nat.zero_le _, rfl, rfl, by omega, by omega, fun j l hj => by omega, Below.refl _ _⟩
  obtain ⟨k, r, hk, rfl, rfl, r0, r1, HQ, hb⟩ := hrel
  by_cases hlt : k < L.length
  ·
   obtain ⟨t, hl0⟩ := get_some hlt
   obtain ⟨b, o, rfl, hB, hp, s', c', e0, e1, e2, e3, f⟩ := eNode_cells (hL.later cNode_keeps hb) hl0
   have hn := HM.out t (List.mem_of_getElem? hl0)
   have HL : Hid (L[k]? = some t) := hl0
   clear hL hl0 f; go_wp2_with fail; refine (szNode_gen s' c' t r _ r0 (by omega) hn).mono ?_
   rintro e w2 ⟨⟨q, rfl, hq⟩, hb2⟩
   rcases hq with rfl | ⟨q0, q1, qn⟩
   ·
    go_wp2_with fail; go_ret; exact ⟨⟨_, rfl, Or.inl rfl⟩, bl_trans hb hb2⟩
   have t2 : decide (q < 0) = false := by simp; omega
   have QN : Hid (kNode t) := qn
   clear qn hn; go_wp2_with fail; go_roundw
   case rel =>
    refine ⟨k + 1, q, by omega, by go_num, rfl, q0, by omega, fun j l' hj hl' => ?_, bl_trans hb hb2⟩
    by_cases e : j = k
    ·
     subst e
     have := HL.out
     rw [this] at hl'
     cases hl'
     exact QN.out
    exact HQ.out j l' (by omega) hl'
   case measure => simp [intOf]; omega
  go_wp2_with fail; go_ret; refine ⟨⟨_, rfl, Or.inr ⟨r0, r1, hl, fun l hl' => ?_⟩⟩, hb⟩
  obtain ⟨j, hj, rfl⟩ := List.getElem_of_mem hl'
  exact HQ.out j _ (by omega) (by simp [hj])
 have t1 : decide (left - (L.length : Int) < 0) = true := by simp; omega
 go_enter Tryz.func9, Tryz.ntmps9
 go_wp2_with fail; go_ret; exact ⟨⟨_, rfl, Or.inl rfl⟩, Below.refl _ _⟩
set_option maxHeartbeats 2000000 in
theorem szTree_gen (s1 s2 : Option Addr) (c1 c2 : Nat) (t : Tre) (B : Nat) (left : Int) (w : World) (hT : InT w B s1 s2 t) (hm : mTre t) (h0 : 0 ≤ left) (h1 : left ≤ 1048576) :
  Calls Tryz.prog 4 #[.agg #[.slice s1 t.nodes.length c1, .slice s2 t.tops.length c2], .int .i64 left] w fun e w' => Szd left (kTre t) e ∧ Below w.heap.size w w' := by
 obtain ⟨m1, m2, m3, m4⟩ := hm
 have k0 := Blk.new w #[.slice s1 t.nodes.length c1, .slice s2 t.tops.length c2] 25
 have L0 : Below w.heap.size w (w.alloc (.cells #[.slice s1 t.nodes.length c1, .slice s2 t.tops.length c2] 25)) := bl_alloc (Below.refl _ _) _
 obtain ⟨x0, x1, x2⟩ := k0.two
 go_enter Tryz.func4, Tryz.ntmps4
 go_wp2_with fail; refine (szNodeS_gen s1 c1 t.nodes B left _ (hT.n.later cNode_keeps L0) m1 m2 h0 h1).mono ?_
 rintro e w1 ⟨⟨r, rfl, hr⟩, hb1⟩
 have L1 := bl_trans L0 hb1
 have k1 := k0.later hb1
 clear x0 x1 x2 k0 L0 hb1 m2 m4; rcases hr with rfl | ⟨r0, r1, rn⟩
 ·
  go_wp2_with fail; go_ret; exact ⟨⟨_, rfl, Or.inl rfl⟩, L1⟩
 have RN : Hid (t.nodes.length ≤ 1048576 ∧ ∀ n ∈ t.nodes, kNode n) := rn
 clear rn; obtain ⟨x0, x1, x2⟩ := k1.two
 have t1 : decide (r < 0) = false := by simp; omega
 go_wp2_with fail; refine (szInts_gen s2 _ c2 r _ r0 (by omega) m3).mono ?_
 rintro e w' ⟨⟨q, rfl, hq⟩, rfl⟩
 rcases hq with rfl | ⟨q0, q1, qn⟩
 ·
  go_wp2_with fail; go_ret; exact ⟨⟨_, rfl, Or.inl rfl⟩, L1⟩
 have t2 : decide (q < 0) = false := by simp; omega
 go_wp2_with fail; go_ret; exact ⟨⟨_, rfl, Or.inr ⟨q0, by omega, RN.out, qn⟩⟩, L1⟩
end
section
open Go.RowKit
inductive FitL (K : Nat → List Int) (ok : Nat → Prop) : List Int → Nat → Nat → Prop
 | nil (nx : Nat) : FitL K ok [] nx nx
 | cons (nx k : Nat) (ks : List Int) (e : Nat) : nx ≤ k → ok k → FitL K ok (K k) nx k → FitL K ok ks (k + 1) e → FitL K ok ((k : Int) :: ks) nx e
section
variable {K : Nat → List Int} {ok : Nat → Prop}
theorem FitL.le {ks : List Int} {a e : Nat} (h : FitL K ok ks a e) : a ≤ e := by
 induction h with
 | nil nx => exact Nat.le_refl _
 | cons nx k ks e h1 _ _ _ _ ih => omega
theorem FitL.append {A B : List Int} {a m e : Nat} (h : FitL K ok A a m) (g : FitL K ok B m e) : FitL K ok (A ++ B) a e := by
 induction h with
 | nil nx => exact g
 | cons nx k ks e' h1 h2 h3 _ _ ih => exact FitL.cons nx k _ e h1 h2 h3 (ih g)
theorem FitL.split {A B : List Int} : ∀ {a e : Nat}, FitL K ok (A ++ B) a e → ∃ m, FitL K ok A a m ∧ FitL K ok B m e := by
 induction A with
 | nil => intro a e h; exact ⟨a, FitL.nil a, h⟩
 | cons x A ih =>
  intro a e h
  rw [List.cons_append] at h
  cases h with
  | cons nx k ks e h1 h2 h3 h4 =>
   obtain ⟨m, g1, g2⟩ := ih h4
   exact ⟨m, FitL.cons a k A m h1 h2 h3 g1, g2⟩
def StepTo (K : Nat → List Int) (ok : Nat → Prop) (i : Nat) (l l' : List Int) : Prop := ok i ∧ ∃ A, l = A ++ K i ∧ l' = A ++ [(i : Int)]
inductive Run (K : Nat → List Int) (ok : Nat → Prop) : Nat → Nat → List Int → List Int → Prop
 | nil (a : Nat) (l : List Int) : Run K ok a a l l
 | cons (a e : Nat) (l l1 l2 : List Int) : StepTo K ok a l l1 → Run K ok (a + 1) e l1 l2 → Run K ok a e l l2
theorem Run.trans {a m e : Nat} {l l1 l2 : List Int} (h : Run K ok a m l l1) (g : Run K ok m e l1 l2) : Run K ok a e l l2 := by
 induction h with
 | nil a l => exact g
 | cons a e' l l1 l2' h1 _ ih => exact Run.cons a e l l1 l2 h1 (ih g)
theorem Run.one {a : Nat} {l l1 : List Int} (h : StepTo K ok a l l1) : Run K ok a (a + 1) l l1 := Run.cons a (a + 1) l l1 l1 h (Run.nil _ _)
theorem FitL.run {ks : List Int} {a e : Nat} (h : FitL K ok ks a e) : ∀ l, Run K ok a e l (l ++ ks) := by
 induction h with
 | nil nx => intro l; rw [List.append_nil]; exact Run.nil _ _
 | cons nx k ks e h1 h2 _ _ ih1 ih2 =>
  intro l
  have h5 := (ih1 l).trans (Run.one ⟨h2, l, rfl, rfl⟩)
  have h6 := h5.trans (ih2 (l ++ [(k : Int)]))
  rw [List.append_assoc] at h6
  exact h6
theorem Run.fit {a e : Nat} {l l' : List Int} (h : Run K ok a e l l') : ∀ b, FitL K ok l b a → FitL K ok l' b e := by
 induction h with
 | nil a l => intro b g; exact g
 | cons a e l l1 l2 h1 _ ih =>
  intro b g
  obtain ⟨h2, A, rfl, rfl⟩ := h1
  obtain ⟨m, g1, g2⟩ := FitL.split g
  exact ih b (g1.append (FitL.cons m a [] (a + 1) g2.le h2 g2 (FitL.nil _)))
theorem run_fit {n : Nat} {tops : List Int} : Run K ok 0 n [] tops ↔ FitL K ok tops 0 n :=
 ⟨fun h => h.fit 0 (FitL.nil 0), fun h => by have := h.run []; simpa using this⟩
theorem StepTo.same {a : Nat} {l l1 l2 : List Int} (h : StepTo K ok a l l1) (g : StepTo K ok a l l2) : l1 = l2 := by
 obtain ⟨_, A, rfl, rfl⟩ := h
 obtain ⟨_, B, e, rfl⟩ := g
 rw [List.append_cancel_right e]
theorem Run.split {a m e : Nat} (ham : a ≤ m) {l l2 : List Int} (h : Run K ok a e l l2) (hme : m ≤ e) : ∃ l1, Run K ok a m l l1 ∧ Run K ok m e l1 l2 := by
 induction h with
 | nil a l =>
  obtain rfl : m = a := by omega
  exact ⟨l, Run.nil _ _, Run.nil _ _⟩
 | cons a e l l1 l2 h1 h2 ih =>
  by_cases e1 : m = a
  ·
   subst e1; exact ⟨l, Run.nil _ _, Run.cons _ _ _ _ _ h1 h2⟩
  obtain ⟨l3, g1, g2⟩ := ih (by omega) hme
  exact ⟨l3, Run.cons _ _ _ _ _ h1 g1, g2⟩
theorem Run.le {a e : Nat} {l l' : List Int} (h : Run K ok a e l l') : a ≤ e := by
 induction h with
 | nil a l => exact Nat.le_refl _
 | cons a e l l1 l2 h1 _ ih => omega
theorem Run.same {a e : Nat} {l l1 l2 : List Int} (h : Run K ok a e l l1) (g : Run K ok a e l l2) : l1 = l2 := by
 induction h with
 | nil a l =>
  cases g with
  | nil => rfl
  | cons _ _ _ _ _ _ g2 => have := g2.le; omega
 | cons a e l l3 l4 h1 h2 ih =>
  cases g with
  | nil => have := h2.le; omega
  | cons _ _ _ l5 _ g1 g2 =>
   have := h1.same g1
   subst this
   exact ih g2
theorem Run.len {a e : Nat} {l l' : List Int} (h : Run K ok a e l l') : l'.length ≤ l.length + (e - a) := by
 induction h with
 | nil a l => omega
 | cons a e l l1 l2 h1 h2 ih =>
  obtain ⟨_, A, rfl, rfl⟩ := h1
  have := h2.le
  simp at ih ⊢
  omega
theorem Run.mem {a e : Nat} {l l' : List Int} (h : Run K ok a e l l') (hl : ∀ x ∈ l, ∃ k : Nat, x = k ∧ k < a) : ∀ x ∈ l', ∃ k : Nat, x = k ∧ k < e := by
 induction h with
 | nil a l => exact hl
 | cons a e l l1 l2 h1 h2 ih =>
  obtain ⟨_, A, rfl, rfl⟩ := h1
  refine ih fun x hx => ?_
  rcases List.mem_append.1 hx with hx | hx
  ·
   obtain ⟨k, e1, e2⟩ := hl x (List.mem_append.2 (Or.inl hx))
   exact ⟨k, e1, by omega⟩
  simp at hx
  exact ⟨a, hx, by omega⟩
end
end
section
open Go.RowKit
section
variable {P : Program} {md : Region.Mode} {ops : Array Oper} {Q : Exit → Act → World → Prop} {S : World → Prop}
def skipOk (md : Region.Mode) (ops : Array Oper) : List (Nat × Nat) → Array Bool → Act → Bool
 | [], _, _ => true
 | j :: js, listed, a =>
  (match ops[j.1]? with | some o => o.dst == some j.2 && !Region.wanted o (yielded ops a.tmps) | none => false) && Region.free md ops listed j.1 && (Region.ready md ops listed).contains j.1 && skipOk md ops js (listed.setIfInBounds j.1 true) (a.put (some j.2) undef)
theorem wpAnyH_skip (hs : Region.noSelect ops = true) (hQ : ∀ c a (d : Nat) w, Q (.panic c) (a.put (some d) undef) w → Q (.panic c) a w) : ∀ (js : List (Nat × Nat)) (fuel : Nat) (listed : Array Bool) (a : Act) (w : World), S w → skipOk md ops js listed a = true →
  wpAnyH P md ops Q S fuel (js.foldl (fun l j => l.setIfInBounds j.1 true) listed) (js.foldl (fun a j => a.put (some j.2) undef) a) w → ∀ F, F = fuel + js.length → wpAnyH P md ops Q S F listed a w
 | [], fuel, listed, a, w, hS, _, h, F, hF => by
  have : F = fuel := by simpa using hF
  subst this
  simpa using h
 | j :: js, fuel, listed, a, w, hS, hk, h, F, hF => by
  have e : F = (fuel + js.length) + 1 := by rw [hF, List.length_cons]; omega
  subst e
  simp only [skipOk, Bool.and_eq_true] at hk
  obtain ⟨⟨⟨h1, h2⟩, h3⟩, h4⟩ := hk
  cases ho : ops[j.1]? with
  | none => rw [ho] at h1; cases h1
  | some o =>
   rw [ho] at h1
   simp only [Bool.and_eq_true, Bool.not_eq_true', beq_iff_eq] at h1
   obtain ⟨h5, h6⟩ := h1
   refine wpAnyH_take (i := j.1) (oi := o) (v := undef) ho hs h2 h3 (by rw [h5]; exact fun c a w => hQ c a _ w) (Or.inr ⟨h6, rfl⟩) hS ?_
   rw [h5]
   exact wpAnyH_skip hs hQ js fuel _ _ w hS h4 (by simpa only [List.foldl_cons] using h) _ rfl
theorem wpAnyH_one {i d : Nat} {o : Oper} {v : Value} {fuel : Nat} {listed : Array Bool} {a : Act} {w : World} (hi : ops[i]? = some o) (hd : o.dst = some d)
  (hs : Region.noSelect ops = true) (hf : Region.free md ops listed i = true) (hr : (Region.ready md ops listed).contains i = true)
  (hQ : ∀ c a w, Q (.panic c) (a.put (some d) v) w → Q (.panic c) a w) (hw : Region.wanted o (yielded ops a.tmps) = true) (hS : S w) (hv : ∀ w, S w → (execOp a.eval o).run P w = .ok (.value v) w)
  (h : wpAnyH P md ops Q S fuel (listed.setIfInBounds i true) (a.put (some d) v) w) : wpAnyH P md ops Q S (fuel + 1) listed a w :=
 wpAnyH_take (i := i) (oi := o) (v := v) hi hs hf hr (by rw [hd]; exact hQ) (Or.inl ⟨hw, hv⟩) hS (by rw [hd]; exact h)
theorem wpq {v : Value} (i d : Nat) {o : Oper} {fuel : Nat} {listed : Array Bool} {a : Act} {w : World} (hi : ops[i]? = some o) (hd : o.dst = some d) (hv : ∀ w, S w → (execOp a.eval o).run P w = .ok (.value v) w)
 (h : wpAnyH P md ops Q S fuel (listed.setIfInBounds i true) (a.put (some d) v) w) (hs : Region.noSelect ops = true := by kernel_rfl) (hf : Region.free md ops listed i = true := by kernel_rfl) (hr : (Region.ready md ops listed).contains i = true := by kernel_rfl)
 (hQ : ∀ c a w, Q (.panic c) (a.put (some d) v) w → Q (.panic c) a w := by exact fun _ _ _ h => h) (hw : Region.wanted o (yielded ops a.tmps) = true := by rfl) (hS : S w := by assumption) : wpAnyH P md ops Q S (fuel + 1) listed a w :=
 wpAnyH_one hi hd hs hf hr hQ hw hS hv h
theorem zs : (∀ {α β : Type} (f : β → α → β) (b : β), List.foldl f b [] = b) ∧ (∀ {α β : Type} (f : β → α → β) (b : β) (a : α) (l : List α), List.foldl f b (a :: l) = List.foldl f (f b a) l) ∧ (∀ {α : Type} (l : List α) (i : Nat) (a : α), l.toArray.setIfInBounds i a = (l.set i a).toArray) ∧ (∀ {α : Type} (x a : α) (l : List α), (x :: l).set 0 a = a :: l) ∧ (∀ {α : Type} (x a : α) (l : List α) (i : Nat), (x :: l).set (i + 1) a = x :: l.set i a) ∧ ∀ (a : Act) (d : Tmp) (v : Value), a.put (some d) v = ⟨a.tmps.setIfInBounds d v, a.defers⟩ :=
 ⟨fun _ _ => rfl, fun _ _ _ _ => rfl, List.setIfInBounds_toArray, fun _ _ _ => rfl, fun _ _ _ _ => rfl, fun _ _ _ => rfl⟩
theorem wpr {v : Value} (i d : Nat) {o : Oper} {fuel : Nat} {listed : Array Bool} {a : Act} {w : World} (h : wpAnyH P md ops Q S fuel (listed.setIfInBounds i true) (a.put (some d) v) w) (hi : ops[i]? = some o := by rfl) (hd : o.dst = some d := by rfl) (hv : ∀ w, S w → (execOp a.eval o).run P w = .ok (.value v) w := by intro w hSw; (try dsimp only at hSw); go_simp <;> with_reducible rfl)
 (hs : Region.noSelect ops = true := by kernel_rfl) (hf : Region.free md ops listed i = true := by kernel_rfl) (hr : (Region.ready md ops listed).contains i = true := by kernel_rfl)
 (hQ : ∀ c a w, Q (.panic c) (a.put (some d) v) w → Q (.panic c) a w := by exact fun _ _ _ h => h) (hw : Region.wanted o (yielded ops a.tmps) = true := by rfl) (hS : S w := by assumption) : wpAnyH P md ops Q S (fuel + 1) listed a w :=
 wpAnyH_one hi hd hs hf hr hQ hw hS hv h
theorem wpy (i : Nat) {o : Oper} {fuel : Nat} {listed : Array Bool} {a : Act} {w : World} (h : ∀ K' : Act → World → Prop, Shut (∀ a w, S w → (S w → wpAnyH P md ops Q S fuel (listed.setIfInBounds i true) a w) → K' a w) → if Region.wanted o (yielded ops a.tmps) = true then Oper.wp P o a w K' Q else K' (a.put o.dst undef) w) (ho : ops[i]? = some o := by rfl) (hr : Region.ready md ops listed = [i] := by kernel_rfl) : wpAnyH P md ops Q S (fuel + 1) listed a w := wpAnyH_ready hr (by simp) (AllReadyH.cons ho h AllReadyH.nil)
end
end
section
open Go.RowKit
def OI (w : World) (B : Nat) (v : Value) (L : List Int) : Prop := w.ownsRow B 3 1 v L.length (L.map (Value.int .i64))
theorem OI.nil (w : World) (B : Nat) : OI w B (.slice none 0 0) [] := World.ownsRow_nil _ _ _ _
theorem OI.empty {w : World} {b : Nat} (h : Blk w b #[] 3) : OI w b (.slice (some ⟨b, 0, none⟩) 0 0) [] := ⟨rfl, Or.inr ⟨b, 0, _, rfl, Nat.le_refl _, h, Nat.le_refl _, by unfold maxLen; omega, rfl, rfl⟩⟩
theorem OI.form {w : World} {B : Nat} {v : Value} {L : List Int} (h : OI w B v L) : (v = .slice none 0 0 ∧ L = []) ∨ ∃ g cap, v = .slice (some ⟨g, 0, none⟩) L.length cap ∧ B ≤ g ∧ g < w.heap.size ∧ L.length ≤ cap := by
 rcases h.2 with ⟨h1, h2⟩ | ⟨g, cap, cur, rfl, hb, hg, hc, r⟩
 ·
  exact Or.inl ⟨h1, List.length_eq_zero_iff.1 h2⟩
 exact Or.inr ⟨g, cap, rfl, hb, (Array.getElem?_eq_some_iff.1 hg).1, hc⟩
theorem OI.shape {w : World} {B : Nat} {v : Value} {L : List Int} (h : OI w B v L) : ∃ s c, v = .slice s L.length c := by
 rcases h.form with ⟨rfl, rfl⟩ | ⟨g, cap, rfl, _⟩
 ·
  exact ⟨_, _, rfl⟩
 exact ⟨_, _, rfl⟩
theorem OI.cap {w : World} {B : Nat} {s : Option Addr} {n c : Nat} {L : List Int} (h : OI w B (.slice s n c) L) : n ≤ c := by
 rcases h.2 with ⟨h1, _⟩ | ⟨g, cap, cur, h1, _, _, h2, _⟩
 ·
  simp only [Value.slice.injEq] at h1; omega
 simp only [Value.slice.injEq] at h1
 obtain ⟨_, rfl, rfl⟩ := h1
 exact h2
theorem OI.lt {w : World} {B : Nat} {v : Value} {L : List Int} (h : OI w B v L) : ∀ g, v.ownBlock = some g → B ≤ g ∧ g < w.heap.size := World.ownsRow.lt h
theorem OI.later {w w' : World} {B : Nat} {v : Value} {L : List Int} (h : OI w B v L) (hb : Below w.heap.size w w') : OI w' B v L := by
 refine World.ownsRow.kept h (grown_of_below hb) ?_
 cases v.ownBlock with
 | none => exact Or.inl rfl
 | some b => exact Or.inr (by simp)
theorem OI.mono {w : World} {B B' : Nat} {v : Value} {L : List Int} (h : OI w B v L) (hB : B' ≤ B) : OI w B' v L := by
 refine ⟨h.1, ?_⟩
 rcases h.2 with h' | ⟨g, cap', cur, h', hb, r⟩
 ·
  exact Or.inl h'
 exact Or.inr ⟨g, cap', cur, h', Nat.le_trans hB hb, r⟩
theorem OI.same {w w' : World} {B : Nat} {v : Value} {L : List Int} (h : OI w B v L) (hs : ∀ g, v.ownBlock = some g → w'.heap[g]? = w.heap[g]?) : OI w' B v L := by
 refine ⟨h.1, ?_⟩
 rcases h.2 with h' | ⟨g, cap', cur, h', hb', hg, r⟩
 ·
  exact Or.inl h'
 refine Or.inr ⟨g, cap', cur, h', hb', ?_, r⟩
 subst h'
 exact (hs g rfl).trans hg
theorem flat_one (L : List Int) : L.flatMap (fun x => [Value.int .i64 x]) = L.map (Value.int .i64) := by
 induction L with
 | nil => rfl
 | cons a l ih => rw [List.flatMap_cons, ih]; rfl
theorem OI.els {w : World} {B : Nat} {s : Option Addr} {c : Nat} {L : List Int} (h : OI w B (.slice s L.length c) L) : Els 1 cInt w B s L := by
 rcases h.form with ⟨h1, rfl⟩ | ⟨g, cap, h1, _, _, _⟩
 ·
  exact Or.inl rfl
 simp only [Value.slice.injEq] at h1
 obtain ⟨rfl, _, rfl⟩ := h1
 have h' : w.ownsRow B 3 1 (.slice (some ⟨g, 0, none⟩) L.length c) L.length (L.flatMap (fun x => [Value.int .i64 x])) := by
  rw [flat_one]; exact h
 exact els_of_row (f := fun x => [Value.int .i64 x]) (fun _ => rfl) h' (fun a ha => rfl)
theorem run_append_noneI (w : World) (ty : TypeId) (b : Option Addr) (l c d : Nat) (h : l ≤ c) : (Builtin.append_ #[23, 23] ty #[.slice b l c, .slice none 0 d]).run Tryz.prog w = .ok (.slice b l c) w := by
 obtain ⟨i0, hi, hz0, hz1, hz2⟩ := info_parts Tryz.infoI
 cases b with
 | none => simp [Builtin.append_, run_underlying Tryz.underlying23, sizeOf, typeInfo, hi, Builtin.lenOf, h, run_firstCells_none]
 | some a => simp [Builtin.append_, run_underlying Tryz.underlying23, sizeOf, typeInfo, hi, Builtin.lenOf, h, run_firstCells_none, storeCells]
def NearI (w : World) (v v' : Value) : Prop := ∀ g, v'.ownBlock = some g → v.ownBlock = some g ∨ g = w.heap.size
theorem append_ints (w : World) (ty : TypeId) (Bs : Nat) (s : Option Addr) (c : Nat) (L : List Int) (hv : OI w Bs (.slice s L.length c) L) (B0 : Nat) (t : Option Addr) (d : Nat) (M : List Int) (hM : Els 1 cInt w B0 t M) (hl : L.length + M.length ≤ 17592186044416) (hB : Bs ≤ w.heap.size) :
  ∃ s' c' w', (Builtin.append_ #[23, 23] ty #[.slice s L.length c, .slice t M.length d]).run Tryz.prog w = .ok (.slice s' (L ++ M).length c') w' ∧ OI w' Bs (.slice s' (L ++ M).length c') (L ++ M) ∧ w.grownBy w' (Value.slice s L.length c).ownBlock ∧ NearI w (.slice s L.length c) (.slice s' (L ++ M).length c') := by
 have hnone : t = none → M = [] := by
  rintro rfl
  rcases hM with h | ⟨b, o, e, _⟩
  ·
   exact h
  cases e
 cases t with
 | none =>
  have := hnone rfl
  subst this
  refine ⟨s, c, w, ?_, ?_, grown_refl _ _, ?_⟩
  ·
   rw [List.append_nil]; exact run_append_noneI w ty s L.length c d hv.cap
  ·
   rw [List.append_nil]; exact hv
  intro g hg; rw [List.append_nil] at hg; exact Or.inl hg
 | some a =>
  obtain ⟨i0, hi, hz0, hz1, hz2⟩ := info_parts Tryz.infoI
  have hnews : ∀ j u, (M.map (Value.int .i64))[j]? = some u → w.cell? (a.add j) = some u := by
   intro j u hu
   have hj : j < M.length := by have := (List.getElem?_eq_some_iff.1 hu).1; simpa using this
   rcases hM with h | ⟨b, o, e, _, _, h3, _⟩
   ·
    subst h; simp at hj
   cases e
   obtain ⟨p, hp⟩ := get_some (L := M) (k := j) hj
   obtain ⟨cs, e1, e2, e3⟩ := h3 j p hp
   have e3 : cs = [.int .i64 p] := e3
   subst e3
   rw [List.getElem?_map, hp] at hu
   simp at hu
   subst hu
   rw [Go.WideShapes.add_plain]
   have := e2 0 _ rfl
   rw [show o + j * 1 + 0 = o + j by omega] at this
   exact this
  obtain ⟨v', w', hrun, h2, h3, _, h5⟩ := run_append_own_at (P := Tryz.prog) w Bs 23 ty 3 i0 (.int .i64 0) 1 8 Tryz.underlying23 hi hz0 hz1 hz2 rfl (by decide) (.slice s L.length c) L.length (L.map (Value.int .i64)) hv a M.length d (M.map (Value.int .i64)) (by simp) hnews (by intro u hu; obtain ⟨x, _, rfl⟩ := List.mem_map.1 hu; rfl) (by unfold maxLen; omega) (by omega) hB
  have hO : OI w' Bs v' (L ++ M) := by
   unfold OI
   rw [List.length_append, List.map_append]
   exact h2
  obtain ⟨s', c', rfl⟩ := hO.shape
  refine ⟨s', c', w', hrun, hO, h3, ?_⟩
  intro q hq
  rcases h5 with h5 | h5
  ·
   left; rw [← h5]; exact hq
  right; rw [h5] at hq; cases hq; rfl
theorem wpList_append_ints {w : World} {ops : Array Oper} {rest : List Oper} {o : Oper} {a : Act} {Q : Exit → Act → World → Prop}
  (hgd : o.guard = none) (s x : Operand) (hop : o.op = Op.call { callee := Callee.builtin Builtin.append, args := #[s, x], argTypes := #[23, 23] })
  (Bs : Nat) (s0 : Option Addr) (c0 : Nat) (L : List Int) (hs : a.eval s = .slice s0 L.length c0) (hv : OI w Bs (.slice s0 L.length c0) L) (B0 : Nat) (t : Option Addr) (d : Nat) (M : List Int) (hx : a.eval x = .slice t M.length d) (hM : Els 1 cInt w B0 t M) (R : List Int) (hR : L ++ M = R) (hl : L.length + M.length ≤ 17592186044416) (hB : Bs ≤ w.heap.size)
  (h : ∀ s' c' w', OI w' Bs (.slice s' R.length c') R → w.grownBy w' (Value.slice s0 L.length c0).ownBlock → NearI w (.slice s0 L.length c0) (.slice s' R.length c') → wpList Tryz.prog ops Q rest (a.put o.dst (.slice s' R.length c')) w') :
  wpList Tryz.prog ops Q (o :: rest) a w := by
 refine wpList_plain hgd fun K hK => ?_
 obtain ⟨s', c', w', hrun, h1, h2, h3⟩ := append_ints w o.type Bs s0 c0 L hv B0 t d M hM hl hB
 rw [hR] at hrun h1 h3
 unfold Oper.wp
 simp [execOp, hop, resolve, invoke, builtin, hs, hx, hrun, Result.andThen]
 exact hK _ _ (h s' c' w' h1 h2 h3)
theorem grown_oi {B : Nat} {W X Y : World} {s : Option Addr} {L : List Int} {c : Nat} (hb : Below B W X) (hB : B ≤ X.heap.size) (hv : OI X B (.slice s L.length c) L) (hg : X.grownBy Y (Value.slice s L.length c).ownBlock) : Below B W Y :=
 hb.grown hg hB (fun q hq => (hv.lt q hq).1)
theorem Els.one {w : World} {b : Nat} {x : Int} (h : Blk w b #[.int .i64 x] 3) : Els 1 cInt w b (some ⟨b, 0, none⟩) [x] := by
 refine Or.inr ⟨b, 0, rfl, Nat.le_refl _, h.lt, fun j a ha => ?_, fun _ j => h.frozen j⟩
 have hj : j < 1 := by have := (List.getElem?_eq_some_iff.1 ha).1; simpa using this
 obtain rfl : j = 0 := by omega
 simp at ha
 subst ha
 refine ⟨[.int .i64 x], rfl, fun i u hu => ?_, rfl⟩
 have hi : i = 0 := by have := (List.getElem?_eq_some_iff.1 hu).1; simp at this; exact this
 subst hi
 simp at hu
 subst hu
 simpa using h.cell 0
def Asc (L : List Int) : Prop := L.Pairwise (· < ·)
theorem asc_last {R : List Int} (h : Asc R) {j : Nat} {x l : Int} (hj : R[j]? = some x) (hl : R[R.length - 1]? = some l) : x ≤ l := by
 have h1 : j < R.length := (List.getElem?_eq_some_iff.1 hj).1
 by_cases e : j = R.length - 1
 ·
  rw [e, hl] at hj; cases hj; exact Int.le_refl _
 have := List.pairwise_iff_getElem.1 h j (R.length - 1) h1 (by omega) (by omega)
 have e1 : R[j] = x := by rw [List.getElem?_eq_getElem h1] at hj; simpa using hj
 have e2 : R[R.length - 1]'(by omega) = l := by rw [List.getElem?_eq_getElem (by omega)] at hl; simpa using hl
 rw [e1, e2] at this; omega
theorem asc_unique {L M : List Int} (hL : Asc L) (hM : Asc M) (h : ∀ x, x ∈ L ↔ x ∈ M) : L = M := by
 refine List.Perm.eq_of_pairwise (le := fun a b => a ≤ b) (fun a b _ _ h1 h2 => by omega) (hL.imp (fun h => by omega)) (hM.imp (fun h => by omega)) ?_
 exact (List.perm_ext_iff_of_nodup (hL.imp (fun h => by omega)) (hM.imp (fun h => by omega))).2 h
structure Inv (A B : List Int) (i k : Nat) (R : List Int) : Prop where
 asc : Asc R
 mem : ∀ x, x ∈ R ↔ x ∈ A.take i ∨ x ∈ B.take k
 la : ∀ x ∈ R, ∀ y ∈ A.drop i, x ≤ y
 lb : ∀ x ∈ R, ∀ y ∈ B.drop k, x ≤ y
 len : R.length ≤ i + k
theorem mem_take_succ {A : List Int} {i : Nat} {x y : Int} (h : A[i]? = some x) : y ∈ A.take (i + 1) ↔ y ∈ A.take i ∨ y = x := by
 have hk : i < A.length := (List.getElem?_eq_some_iff.1 h).1
 rw [List.take_succ_eq_append_getElem hk]
 have e : A[i] = x := by rw [List.getElem?_eq_getElem hk] at h; simpa using h
 rw [e]; simp
theorem drop_cons {A : List Int} {i : Nat} {x : Int} (h : A[i]? = some x) : A.drop i = x :: A.drop (i + 1) := by
 have hk : i < A.length := (List.getElem?_eq_some_iff.1 h).1
 rw [List.drop_eq_getElem_cons hk]
 congr 1
 rw [List.getElem?_eq_getElem hk] at h; simpa using h
theorem asc_drop {A : List Int} (hA : Asc A) {i : Nat} {x : Int} (h : A[i]? = some x) : ∀ y ∈ A.drop (i + 1), x < y := by
 intro y hy
 have := List.Pairwise.sublist (List.drop_sublist i A) hA
 rw [drop_cons h] at this
 exact (List.pairwise_cons.1 this).1 y hy
theorem Inv.new {A B : List Int} {i k : Nat} {R : List Int} {x : Int} (h : Inv A B i k R) (hA : Asc A) (hB : Asc B) (hx : A[i]? = some x) (hmin : ∀ y, B[k]? = some y → x ≤ y) (hl : R = [] ∨ ∃ l, R[R.length - 1]? = some l ∧ ¬ l = x) : Inv A B (i + 1) k (R ++ [x]) := by
 have hle : ∀ r ∈ R, r ≤ x := fun r hr => h.la r hr x (by rw [drop_cons hx]; simp)
 have hlt : ∀ r ∈ R, r < x := by
  intro r hr
  rcases hl with rfl | ⟨l, hl, hne⟩
  ·
   simp at hr
  obtain ⟨j, hj, rfl⟩ := List.getElem_of_mem hr
  have h1 := asc_last h.asc (j := j) (x := R[j]) (by simp [hj]) hl
  have h2 := hle l (List.mem_of_getElem? hl)
  omega
 refine ⟨List.pairwise_append.2 ⟨h.asc, by simp, fun a ha b hb => by simp at hb; subst hb; exact hlt a ha⟩, fun y => ?_, fun r hr y hy => ?_, fun r hr y hy => ?_, by have := h.len; simp; omega⟩
 ·
  rw [List.mem_append, h.mem y, mem_take_succ hx]
  simp only [List.mem_singleton]
  constructor
  ·
   rintro ((h1 | h1) | h1)
   ·
    exact Or.inl (Or.inl h1)
   ·
    exact Or.inr h1
   exact Or.inl (Or.inr h1)
  rintro ((h1 | h1) | h1)
  ·
   exact Or.inl (Or.inl h1)
  ·
   exact Or.inr h1
  exact Or.inl (Or.inr h1)
 ·
  rcases List.mem_append.1 hr with hr | hr
  ·
   exact h.la r hr y (by rw [drop_cons hx]; simp [hy])
  simp at hr; subst hr; have := asc_drop hA hx y hy; omega
 rcases List.mem_append.1 hr with hr | hr
 ·
  exact h.lb r hr y hy
 simp at hr; subst hr
 cases hk : B[k]? with
 | none => rw [List.drop_eq_nil_of_le (List.getElem?_eq_none_iff.1 hk)] at hy; simp at hy
 | some z =>
  have h1 := hmin z hk
  rw [drop_cons hk] at hy
  rcases List.mem_cons.1 hy with rfl | hy
  ·
   exact h1
  have := asc_drop hB hk y hy; omega
def Srt (L R : List Int) : Prop := Asc R ∧ (∀ x, x ∈ R ↔ x ∈ L) ∧ R.length ≤ L.length
theorem Srt.same {L R R' : List Int} (h : Srt L R) (g : Srt L R') : R = R' := asc_unique h.1 g.1 (fun x => (h.2.1 x).trans (g.2.1 x).symm)
end
section
open Go.RowKit
def cls (k : Int) : Int :=
 if 1 ≤ k ∧ k ≤ 11 then 1 else if 12 ≤ k ∧ k ≤ 26 then 2 else if k = 27 then 3 else if k = 29 then 4 else if k = 30 then 5 else if k = 31 then 6 else if k = 32 then 7 else if k = 28 then 8 else if k = 33 ∨ k = 34 then 9 else 0
def shp (kind : Int) (k : Nat) : List Int :=
 if kind = 7 then List.replicate k 1 else if kind = 8 ∨ kind = 10 then [1, 1]
 else if kind = 9 ∨ kind = 12 ∨ kind = 13 ∨ kind = 14 ∨ kind = 15 ∨ kind = 19 ∨ kind = 23 ∨ kind = 26 ∨ kind = 28 then [1]
 else if kind = 11 then 1 :: 6 :: List.replicate (k - 2) 6
 else if kind = 16 then (if k = 3 then [1, 3, 3] else [1, 3]) else if kind = 17 then [1, 3] else if kind = 18 then [4, 5, 3] else if kind = 20 then [6, 3]
 else if kind = 21 then List.replicate k 8 else if kind = 25 then [10] else if kind = 27 then List.replicate k 2 else if kind = 29 then 6 :: List.replicate (k - 1) 6
 else if kind = 30 then List.replicate k 6 else if kind = 33 then List.replicate (k - 1) 7 ++ [3] else if kind = 34 then [3] else []
theorem kind_split (k : Int) : k < 1 ∨ 34 < k ∨ k = 1 ∨ k = 2 ∨ k = 3 ∨ k = 4 ∨ k = 5 ∨ k = 6 ∨ k = 7 ∨ k = 8 ∨ k = 9 ∨ k = 10 ∨ k = 11 ∨ k = 12 ∨ k = 13 ∨ k = 14 ∨ k = 15 ∨ k = 16 ∨ k = 17 ∨ k = 18 ∨ k = 19 ∨ k = 20 ∨ k = 21 ∨ k = 22 ∨ k = 23 ∨ k = 24 ∨ k = 25 ∨ k = 26 ∨ k = 27 ∨ k = 28 ∨ k = 29 ∨ k = 30 ∨ k = 31 ∨ k = 32 ∨ k = 33 ∨ k = 34 := by omega
structure NoKind (k : Int) : Prop where
 ne : ∀ c : Int, 1 ≤ c → c ≤ 34 → (k == c) = false
theorem noKind {k : Int} (h : k < 1 ∨ 34 < k) : NoKind k := ⟨fun c h1 h2 => by simp; omega⟩
theorem cls_none {k : Int} (h : k < 1 ∨ 34 < k) : cls k = 0 := by
 unfold cls
 rw [if_neg (by omega), if_neg (by omega), if_neg (by omega), if_neg (by omega), if_neg (by omega), if_neg (by omega), if_neg (by omega), if_neg (by omega), if_neg (by omega)]
theorem shp_none {k : Int} (h : k < 1 ∨ 34 < k) (m : Nat) : shp k m = [] := by
 unfold shp
 repeat rw [if_neg (by omega)]
set_option maxRecDepth 100000 in
set_option maxHeartbeats 4000000 in
theorem l8Class_any (k : Int) (w : World) : Calls Tryz.prog 26 #[.int .i64 k] w fun e w' => e = .returned (.int .i64 (cls k)) ∧ Below w.heap.size w w' := by
 by_cases a1 : 1 ≤ k ∧ k ≤ 11
 ·
  have h1 := a1.1
  have h2 := a1.2
  have HC : Hid (cls k = 1) := by show _ = _; unfold cls; rw [if_pos a1]
  clear a1; go_enter Tryz.func26, Tryz.ntmps26
  go_wp2_with fail; go_ret; exact ⟨by rw [HC.out]; rfl, by (repeat (first | with_reducible exact Below.refl _ _ | with_reducible refine bl_alloc ?_ _ | with_reducible refine bl_drewN ?_ _ | with_reducible refine bl_drew ?_ | with_reducible refine bl_setCell ?_ (by first | exact Nat.le_refl _ | (dsimp only; omega) | (simp <;> omega)) _ | with_reducible refine bl_trans ?_ (by with_reducible assumption)))⟩
 by_cases a2 : 12 ≤ k ∧ k ≤ 26
 ·
  have HC : Hid (cls k = 2) := by show _ = _; unfold cls; rw [if_neg a1, if_pos a2]
  have h1 : 1 ≤ k := by omega
  have h2 : ¬ k ≤ 11 := by omega
  have h3 := a2.1
  have h4 := a2.2
  clear a1 a2; go_enter Tryz.func26, Tryz.ntmps26
  go_wp2_with fail; go_ret; exact ⟨by rw [HC.out]; rfl, by (repeat (first | with_reducible exact Below.refl _ _ | with_reducible refine bl_alloc ?_ _ | with_reducible refine bl_drewN ?_ _ | with_reducible refine bl_drew ?_ | with_reducible refine bl_setCell ?_ (by first | exact Nat.le_refl _ | (dsimp only; omega) | (simp <;> omega)) _ | with_reducible refine bl_trans ?_ (by with_reducible assumption)))⟩
 by_cases a3 : 27 ≤ k ∧ k ≤ 34
 ·
  have h5 : k = 27 ∨ k = 28 ∨ k = 29 ∨ k = 30 ∨ k = 31 ∨ k = 32 ∨ k = 33 ∨ k = 34 := by omega
  rcases h5 with rfl | rfl | rfl | rfl | rfl | rfl | rfl | rfl <;>
  ·
   clear a1 a2 a3; go_enter Tryz.func26, Tryz.ntmps26
   go_wp2_with fail; go_ret; exact ⟨rfl, by (repeat (first | with_reducible exact Below.refl _ _ | with_reducible refine bl_alloc ?_ _ | with_reducible refine bl_drewN ?_ _ | with_reducible refine bl_drew ?_ | with_reducible refine bl_setCell ?_ (by first | exact Nat.le_refl _ | (dsimp only; omega) | (simp <;> omega)) _ | with_reducible refine bl_trans ?_ (by with_reducible assumption)))⟩
 have HN := noKind (k := k) (by omega)
 have HC : Hid (cls k = 0) := cls_none (by omega)
 have e1 := HN.ne 27 (by omega) (by omega)
 have e2 := HN.ne 28 (by omega) (by omega)
 have e3 := HN.ne 29 (by omega) (by omega)
 have e4 := HN.ne 30 (by omega) (by omega)
 have e5 := HN.ne 31 (by omega) (by omega)
 have e6 := HN.ne 32 (by omega) (by omega)
 have e7 := HN.ne 33 (by omega) (by omega)
 have e8 := HN.ne 34 (by omega) (by omega)
 by_cases h1 : 1 ≤ k
 ·
  have h2 : ¬ k ≤ 11 := by omega
  have h3 : 12 ≤ k := by omega
  have h4 : ¬ k ≤ 26 := by omega
  clear a1 a2 a3 HN; go_enter Tryz.func26, Tryz.ntmps26
  go_wp2_with fail; go_ret; exact ⟨by rw [HC.out]; rfl, by (repeat (first | with_reducible exact Below.refl _ _ | with_reducible refine bl_alloc ?_ _ | with_reducible refine bl_drewN ?_ _ | with_reducible refine bl_drew ?_ | with_reducible refine bl_setCell ?_ (by first | exact Nat.le_refl _ | (dsimp only; omega) | (simp <;> omega)) _ | with_reducible refine bl_trans ?_ (by with_reducible assumption)))⟩
 have h3 : ¬ 12 ≤ k := by omega
 clear a1 a2 a3 HN; go_enter Tryz.func26, Tryz.ntmps26
 go_wp2_with fail; go_ret; exact ⟨by rw [HC.out]; rfl, by (repeat (first | with_reducible exact Below.refl _ _ | with_reducible refine bl_alloc ?_ _ | with_reducible refine bl_drewN ?_ _ | with_reducible refine bl_drew ?_ | with_reducible refine bl_setCell ?_ (by first | exact Nat.le_refl _ | (dsimp only; omega) | (simp <;> omega)) _ | with_reducible refine bl_trans ?_ (by with_reducible assumption)))⟩
end
section
open Go.RowKit
theorem blq {B : Nat} {w w' : World} (h : Below B w w' := by (repeat (first | with_reducible exact Below.refl _ _ | with_reducible refine bl_alloc ?_ _ | with_reducible refine bl_drewN ?_ _ | with_reducible refine bl_drew ?_ | with_reducible refine bl_setCell ?_ (by first | exact Nat.le_refl _ | (dsimp only; omega) | (simp <;> omega)) _ | with_reducible refine bl_trans ?_ (by with_reducible assumption)))) : Below B w w' := h
end
end Go.Proofs.YtjckoldjodjehaaGreatDoor
