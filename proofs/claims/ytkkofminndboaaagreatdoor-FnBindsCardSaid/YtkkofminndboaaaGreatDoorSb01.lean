import Derived.Laws.FloatArith
import Derived.Deep.Draws
import Derived.Test.YtkkofminndboaaaGreatDoorRows
import Derived.WalkKit
import Derived.WalkSpells
import Derived.WalkLawsBesides
import Derived.Laws.Externs
import Derived.Deep.RegionWith
import Derived.Deep.DeepCutAuto
import Derived.Laws.OwnMore
import Derived.ChangeKeysEq
import Derived.Deep.QuietTactic
import Derived.BigQuiet
namespace Go.Proofs.YtkkofminndboaaaGreatDoor
set_option linter.unusedVariables false
set_option linter.unusedSimpArgs false
section
open Ieee
def nanB (x : Nat) : Bool := (double.read x).isNaN
theorem sw : double.signWeight = 9223372036854775808 := by decide +kernel
theorem bn : double.binade = 4503599627370496 := by decide +kernel
theorem ir : double.infRung = 9218868437227405312 := by decide +kernel
theorem lp : double.leastPlace = -1074 := by decide +kernel
theorem read_def (x : Nat) : double.read x =
  if x % 9223372036854775808 < 4503599627370496 then .number (x / 9223372036854775808 % 2 == 1) (x % 9223372036854775808) (-1074)
  else if x % 9223372036854775808 < 9218868437227405312 then
   .number (x / 9223372036854775808 % 2 == 1) (4503599627370496 + x % 9223372036854775808 % 4503599627370496) (-1074 + (x % 9223372036854775808 / 4503599627370496 - 1 : Nat))
  else if x % 9223372036854775808 = 9218868437227405312 then .infinity (x / 9223372036854775808 % 2 == 1)
  else .nan (x / 9223372036854775808 % 2 == 1) (x % 9223372036854775808 - 9218868437227405312) := by
 unfold Format.read
 rw [sw, bn, ir, lp]
theorem nanB_def (x : Nat) : nanB x = decide (9218868437227405312 < x % 9223372036854775808) := by
 unfold nanB
 rw [read_def]
 split
 ·
  rw [eq_comm, show (Datum.number _ _ _).isNaN = false from rfl, decide_eq_false_iff_not]; omega
 split
 ·
  rw [eq_comm, show (Datum.number _ _ _).isNaN = false from rfl, decide_eq_false_iff_not]; omega
 split
 ·
  rw [eq_comm, show (Datum.infinity _).isNaN = false from rfl, decide_eq_false_iff_not]; omega
 rw [eq_comm, show (Datum.nan _ _).isNaN = true from rfl, decide_eq_true_eq]; omega
def Form (x : Nat) (d : Datum) : Prop :=
 (x % 9223372036854775808 = 9218868437227405312 ∧ d = .infinity (x / 9223372036854775808 % 2 == 1)) ∨
 ∃ m k : Nat, m < 9007199254740992 ∧ (k = 0 ∨ 4503599627370496 ≤ m) ∧ x % 9223372036854775808 = k * 4503599627370496 + m ∧ k < 2046 ∧ d = .number (x / 9223372036854775808 % 2 == 1) m (-1074 + (k : Int))
theorem form_of (x : Nat) (h : nanB x = false) : Form x (double.read x) := by
 rw [nanB_def, decide_eq_false_iff_not] at h
 rw [read_def]
 split
 ·
  exact Or.inr ⟨_, 0, by omega, Or.inl rfl, by omega, by omega, rfl⟩
 split
 ·
  exact Or.inr ⟨_, _, by omega, Or.inr (by omega), by omega, by omega, rfl⟩
 rw [if_pos (by omega)]
 exact Or.inl ⟨by omega, rfl⟩
def sameB (x y : Nat) : Bool := if nanB x || nanB y then nanB x && nanB y else x == y
theorem sameB_refl (x : Nat) : sameB x x = true := by
 unfold sameB; cases nanB x <;> simp
def Is (o : Option Nat) (x : Nat) : Prop := x < 18446744073709551616 ∧ (o = some x ∨ (o = none ∧ nanB x = true))
theorem Is.same {o : Option Nat} {x y : Nat} (hx : Is o x) (hy : Is o y) : sameB x y = true := by
 rcases hx.2 with h | ⟨h, a⟩ <;> rcases hy.2 with g | ⟨g, b⟩
 ·
  rw [h] at g; cases g; exact sameB_refl _
 ·
  rw [h] at g; cases g
 ·
  rw [h] at g; cases g
 unfold sameB; simp [a, b]
end
section
open Go.RowKit
@[go_sem] theorem run_store_float (P : Program) (w : World) (a : Addr) (m : Mode) (k : FloatKind) (x : Nat) : (store a (.float k x) m).run P w = stored P w a (.float k x) m := run_store P w a _ m rfl
theorem ret_bool {a b : Bool} (h : a = b) : Ending.returned (.bool a) = .returned (.bool b) := by rw [h]
end
section
open Go.RowKit
theorem bl_trans {a b c : World} (h : Below a.heap.size a b) (k : Below b.heap.size b c) : Below a.heap.size a c := h.trans (k.mono h.size)
theorem bl_setCell {a b : World} (h : Below a.heap.size a b) {q : Addr} (hq : a.heap.size ≤ q.block) (u : Value) : Below a.heap.size a (b.setCell q u) := h.setCell hq u
theorem bl_alloc {a b : World} (h : Below a.heap.size a b) (o : Obj) : Below a.heap.size a (b.alloc o) := h.alloc h.size o
theorem bl_drew {a b : World} (h : Below a.heap.size a b) : Below a.heap.size a b.drew := h.drew
theorem bl_drewN {a b : World} (h : Below a.heap.size a b) (n : Nat) : Below a.heap.size a (b.drewN n) := ⟨h.os, h.tape, h.output, h.size, h.block⟩
end
section
open Go.RowKit
def Ints (w : World) (sl : Option Addr) (G : List Int) : Prop :=
 G = [] ∨ ∃ pb po, sl = some ⟨pb, po, none⟩ ∧ pb < w.heap.size ∧ ∀ j, j < G.length → w.cell? ⟨pb, po + j, none⟩ = some (.int .i64 (G.getD j 0))
theorem Ints.later {w w' : World} {sl : Option Addr} {G : List Int} (h : Ints w sl G) (hb : Below w.heap.size w w') : Ints w' sl G := by
 rcases h with h0 | ⟨pb, po, h0, h1, h2⟩
 ·
  exact Or.inl h0
 exact Or.inr ⟨pb, po, h0, Nat.lt_of_lt_of_le h1 hb.size, fun j hj => (hb.cell (p := ⟨pb, po + j, none⟩) h1).trans (h2 j hj)⟩
def Row (w : World) (B : Nat) (sl : Option Addr) (n cap : Nat) (G : List Int) : Prop :=
 w.ownsRow B 3 1 (.slice sl n cap) n (G.map (Value.int .i64))
theorem Row.ints {w : World} {B n cap : Nat} {sl : Option Addr} {G : List Int} (h : Row w B sl n cap G) : Ints w sl G ∧ n = G.length := by
 have hl : n = G.length := by have := h.1; simp at this; omega
 refine ⟨?_, hl⟩
 rcases h.2 with ⟨h', h0⟩ | ⟨g, cap', cur, h', hb, hg, r⟩
 ·
  left
  exact List.length_eq_zero_iff.1 (by omega)
 right
 simp only [Value.slice.injEq] at h'
 obtain ⟨rfl, -, rfl⟩ := h'
 refine ⟨g, 0, rfl, (Array.getElem?_eq_some_iff.1 hg).1, fun j hj => ?_⟩
 rw [Nat.zero_add, World.ownsRow.cellAt h j (by omega)]
 simp [hj]
end
section
open Go.RowKit
theorem ret_bool' {a b : Bool} (h : a = b) : Ending.returned (.bool a) = .returned (.bool b) := by rw [h]
theorem Row.set {w : World} {B g n cap : Nat} {G : List Int} (h : Row w B (some ⟨g, 0, none⟩) n cap G) (j : Nat) (x : Int) : Row (w.setCell ⟨g, j, none⟩ (.int .i64 x)) B (some ⟨g, 0, none⟩) n cap (G.set j x) := by
 have := (World.ownsRow.stored h j (.int .i64 x)).1
 unfold Row
 rw [List.map_set]; exact this
theorem Row.cell {w : World} {B g n cap : Nat} {G : List Int} (h : Row w B (some ⟨g, 0, none⟩) n cap G) (j : Nat) (hj : j < n) : w.cell? ⟨g, j, none⟩ = some (.int .i64 (G[j]?.getD 0)) ∧ w.frozen? ⟨g, j, none⟩ = false := by
 have hl : n = G.length := by have := h.1; simp at this; omega
 refine ⟨?_, World.ownsRow.frozenAt h j⟩
 rw [World.ownsRow.cellAt h j (by omega)]
 have : j < G.length := by omega
 simp [this]
end
section
open Go.RowKit
def Blk (w : World) (n : Nat) (c : Array Value) (t : TypeId) : Prop := w.heap[n]? = some (.cells c t (0, 0))
theorem Blk.lt {w : World} {n : Nat} {c : Array Value} {t : TypeId} (h : Blk w n c t) : n < w.heap.size := (Array.getElem?_eq_some_iff.1 h).1
theorem Blk.new (w : World) (c : Array Value) (t : TypeId) : Blk (w.alloc (.cells c t)) w.heap.size c t := heap_alloc_new w _
theorem Blk.new' (w : World) (c : Array Value) (t : TypeId) {n : Nat} (h : n = w.heap.size) : Blk (w.alloc (.cells c t)) n c t := by subst h; exact heap_alloc_new w _
theorem Blk.later {w w' : World} {n : Nat} {c : Array Value} {t : TypeId} (h : Blk w n c t) (hb : Below w.heap.size w w') : Blk w' n c t := by
 unfold Blk; rw [hb.block n h.lt]; exact h
theorem Blk.alloc {w : World} {n : Nat} {c : Array Value} {t : TypeId} (h : Blk w n c t) (o : Obj) : Blk (w.alloc o) n c t := h.later (bl_alloc (Below.refl _ w) o)
theorem Blk.set {w : World} {n : Nat} {c : Array Value} {t : TypeId} (h : Blk w n c t) (o : Nat) (u : Value) : Blk (w.setCell ⟨n, o, none⟩ u) n (c.setIfInBounds o u) t := heap_setCell_same w n o c t u h
theorem Blk.other {w : World} {n : Nat} {c : Array Value} {t : TypeId} (h : Blk w n c t) {m : Nat} (hm : ¬ n = m) (o : Nat) (u : Value) : Blk (w.setCell ⟨m, o, none⟩ u) n c t := by
 unfold Blk; rw [heap_setCell_other w ⟨m, o, none⟩ n u (fun e => hm (by simpa using e))]; exact h
theorem Blk.cell {w : World} {n : Nat} {c : Array Value} {t : TypeId} (h : Blk w n c t) (o : Nat) : w.cell? ⟨n, o, none⟩ = c[o]? := cell_of_row w n o c t (0, 0) h
theorem Blk.frozen {w : World} {n : Nat} {c : Array Value} {t : TypeId} (h : Blk w n c t) (o : Nat) : w.frozen? ⟨n, o, none⟩ = false := frozen_of_row w n o c t h
theorem Blk.two {w : World} {n : Nat} {a b : Value} {t : TypeId} (h : Blk w n #[a, b] t) : w.cell? ⟨n, 0, none⟩ = some a ∧ w.cell? ⟨n, 1, none⟩ = some b ∧ ∀ o, w.frozen? ⟨n, o, none⟩ = false := ⟨h.cell 0, h.cell 1, h.frozen⟩
end
section
open Go.RowKit
theorem Row.mono {w : World} {B B' : Nat} {sl : Option Addr} {n cap : Nat} {G : List Int} (h : Row w B sl n cap G) (hB : B' ≤ B) : Row w B' sl n cap G := by
 refine ⟨h.1, ?_⟩
 rcases h.2 with h' | ⟨g, cap', cur, h', hb, r⟩
 ·
  exact Or.inl h'
 exact Or.inr ⟨g, cap', cur, h', Nat.le_trans hB hb, r⟩
theorem Row.later {w w' : World} {B : Nat} {sl : Option Addr} {n cap : Nat} {G : List Int} (h : Row w B sl n cap G) (hb : Below w.heap.size w w') : Row w' B sl n cap G := by
 refine ⟨h.1, ?_⟩
 rcases h.2 with h' | ⟨g, cap', cur, h', hB, hg, r⟩
 ·
  exact Or.inl h'
 exact Or.inr ⟨g, cap', cur, h', hB, by rw [hb.block g (Array.getElem?_eq_some_iff.1 hg).1]; exact hg, r⟩
theorem Row.other {w : World} {B b : Nat} {g n cap : Nat} {G : List Int} (h : Row w B (some ⟨g, 0, none⟩) n cap G) (hb : ¬ g = b) (o : Nat) (u : Value) : Row (w.setCell ⟨b, o, none⟩ u) B (some ⟨g, 0, none⟩) n cap G := by
 refine ⟨h.1, ?_⟩
 rcases h.2 with h' | ⟨g', cap', cur, h', hB, hg, r⟩
 ·
  exact Or.inl h'
 simp only [Value.slice.injEq, Option.some.injEq, Addr.mk.injEq, and_true, true_and] at h'
 obtain ⟨rfl, rfl⟩ := h'
 exact Or.inr ⟨g, cap, cur, rfl, hB, by rw [Below.heap_setCell _ _ _ _ hb]; exact hg, r⟩
theorem Row.lt {w : World} {B : Nat} {g n cap : Nat} {G : List Int} (h : Row w B (some ⟨g, 0, none⟩) n cap G) : B ≤ g ∧ g < w.heap.size := by
 rcases h.2 with ⟨h', _⟩ | ⟨g', cap', cur, h', hB, hg, r⟩
 ·
  simp at h'
 simp only [Value.slice.injEq, Option.some.injEq, Addr.mk.injEq, and_true, true_and] at h'
 obtain ⟨rfl, rfl⟩ := h'
 exact ⟨hB, (Array.getElem?_eq_some_iff.1 hg).1⟩
theorem Ints.alloc {w : World} {sl : Option Addr} {G : List Int} (h : Ints w sl G) (o : Obj) : Ints (w.alloc o) sl G := h.later (bl_alloc (Below.refl _ w) o)
theorem bcell2 {W w1 : World} (hb : Below W.heap.size W w1) : (∀ b o, (W.cell? ⟨b, o, none⟩).isSome = true → w1.cell? ⟨b, o, none⟩ = W.cell? ⟨b, o, none⟩) ∧ (∀ b o, (W.cell? ⟨b, o, none⟩).isSome = true → w1.frozen? ⟨b, o, none⟩ = W.frozen? ⟨b, o, none⟩) := by
 refine ⟨fun b o h => ?_, fun b o h => ?_⟩
 ·
  obtain ⟨v, hv⟩ := Option.isSome_iff_exists.1 h
  exact hb.cell (p := ⟨b, o, none⟩) (World.block_lt_of_cell? _ _ hv)
 obtain ⟨v, hv⟩ := Option.isSome_iff_exists.1 h
 exact hb.frozen (p := ⟨b, o, none⟩) (World.block_lt_of_cell? _ _ hv)
theorem alloc_old (W : World) (ob : Obj) (b o : Nat) (h : (W.cell? ⟨b, o, none⟩).isSome = true) : (W.alloc ob).cell? ⟨b, o, none⟩ = W.cell? ⟨b, o, none⟩ :=
 (bcell2 (bl_alloc (Below.refl _ W) ob)).1 b o h
theorem alloc_oldf (W : World) (ob : Obj) (b o : Nat) (h : (W.cell? ⟨b, o, none⟩).isSome = true) : (W.alloc ob).frozen? ⟨b, o, none⟩ = W.frozen? ⟨b, o, none⟩ :=
 (bcell2 (bl_alloc (Below.refl _ W) ob)).2 b o h
def Rows2 (w : World) (B : Nat) (g f : Nat) (G F : List Int) : Prop :=
 Row w B (some ⟨g, 0, none⟩) G.length G.length G ∧ Row w B (some ⟨f, 0, none⟩) F.length F.length F ∧ ¬ g = f
theorem Rows2.later {w w' : World} {B g f : Nat} {G F : List Int} (h : Rows2 w B g f G F) (hb : Below w.heap.size w w') : Rows2 w' B g f G F := ⟨h.1.later hb, h.2.1.later hb, h.2.2⟩
theorem Rows2.mono {w : World} {B B' g f : Nat} {G F : List Int} (h : Rows2 w B g f G F) (hB : B' ≤ B) : Rows2 w B' g f G F := ⟨h.1.mono hB, h.2.1.mono hB, h.2.2⟩
end
section
open Go.RowKit
def Seen (w : World) (B sb n : Nat) (A : List Int) : Prop :=
 ∃ bs : List Bool, w.ownsRow B 4 1 (.slice (some ⟨sb, 0, none⟩) n n) n (bs.map Value.bool) ∧ ∀ p, p < n → bs[p]? = some (decide ((p : Int) ∈ A))
theorem Seen.new {w : World} {B sb n : Nat} (h : w.ownsRow B 4 1 (.slice (some ⟨sb, 0, none⟩) n n) n (List.replicate n (.bool false))) : Seen w B sb n [] :=
 ⟨List.replicate n false, by rw [List.map_replicate]; exact h, fun p hp => by simp [hp]⟩
theorem Seen.cell {w : World} {B sb n : Nat} {A : List Int} (h : Seen w B sb n A) {p : Nat} (hp : p < n) : w.cell? ⟨sb, p, none⟩ = some (.bool (decide ((p : Int) ∈ A))) ∧ w.frozen? ⟨sb, p, none⟩ = false := by
 obtain ⟨bs, h1, h2⟩ := h
 refine ⟨?_, World.ownsRow.frozenAt h1 p⟩
 rw [World.ownsRow.cellAt h1 p (by omega)]
 simp [h2 p hp]
theorem Seen.set {w : World} {B sb n : Nat} {A : List Int} (h : Seen w B sb n A) {p : Nat} (hp : p < n) : Seen (w.setCell ⟨sb, p, none⟩ (.bool true)) B sb n (A ++ [(p : Int)]) := by
 obtain ⟨bs, h1, h2⟩ := h
 have hl : bs.length = n := by have := h1.1; simp at this; exact this
 refine ⟨bs.set p true, by rw [List.map_set]; exact (World.ownsRow.stored h1 p _).1, fun q hq => ?_⟩
 by_cases e : p = q
 ·
  subst e; simp [hl, hp]
 rw [List.getElem?_set_ne e, h2 q hq]
 have : ¬ (q : Int) = (p : Int) := by omega
 simp [this]
end
section
open Go.RowKit
theorem grown_of_below {w w' : World} (hb : Below w.heap.size w w') : w.grownBy w' none := ⟨hb.os, hb.tape, hb.output, hb.size, fun k hk _ => hb.block k hk⟩
theorem Blk.kept {w w' : World} {n b : Nat} {c : Array Value} {t : TypeId} (h : Blk w n c t) (hg : w.grownBy w' (some b)) (hn : ¬ n = b) : Blk w' n c t := by
 unfold Blk; rw [hg.block n h.lt (by simp; exact hn)]; exact h
theorem Row.kept {w w' : World} {B b g n cap : Nat} {G : List Int} (h : Row w B (some ⟨g, 0, none⟩) n cap G) (hg : w.grownBy w' (some b)) (hn : ¬ g = b) : Row w' B (some ⟨g, 0, none⟩) n cap G := World.ownsRow.kept h hg (Or.inr (by simp [Value.ownBlock]; exact hn))
end
section
open Go.RowKit
def EList (w : World) (v : Value) (L : List (Int × Int)) : Prop :=
 (∃ s c, v = .slice s 0 c ∧ L = []) ∨ ∃ g c, v = .slice (some ⟨g, 0, none⟩) L.length c ∧ g < w.heap.size ∧ ∀ j, j < L.length → w.cell? ⟨g, j * 2, none⟩ = some (.int .i64 (L[j]?.getD (0, 0)).1) ∧ w.cell? ⟨g, j * 2 + 1, none⟩ = some (.int .i64 (L[j]?.getD (0, 0)).2)
theorem EList.later {w w' : World} {v : Value} {L : List (Int × Int)} (h : EList w v L) (hb : Below w.heap.size w w') : EList w' v L := by
 rcases h with h0 | ⟨g, c, rfl, h1, h2⟩
 ·
  exact Or.inl h0
 exact Or.inr ⟨g, c, rfl, Nat.lt_of_lt_of_le h1 hb.size, fun j hj => ⟨(hb.cell (p := ⟨g, j * 2, none⟩) h1).trans (h2 j hj).1, (hb.cell (p := ⟨g, j * 2 + 1, none⟩) h1).trans (h2 j hj).2⟩⟩
theorem EList.shape {w : World} {v : Value} {L : List (Int × Int)} (h : EList w v L) : ∃ s c, v = .slice s L.length c := by
 rcases h with ⟨s, c, rfl, rfl⟩ | ⟨g, c, rfl, _⟩
 ·
  exact ⟨s, c, rfl⟩
 exact ⟨_, c, rfl⟩
end
section
open Go.RowKit
def Kept (B : Nat) (w w' : World) : Prop := w.heap.size ≤ w'.heap.size ∧ ∀ k, B ≤ k → k < w.heap.size → w'.heap[k]? = w.heap[k]?
theorem Kept.refl (B : Nat) (w : World) : Kept B w w := ⟨Nat.le_refl _, fun _ _ _ => rfl⟩
theorem Kept.trans {B : Nat} {a b c : World} (h : Kept B a b) (g : Kept B b c) : Kept B a c :=
 ⟨Nat.le_trans h.1 g.1, fun k h1 h2 => (g.2 k h1 (Nat.lt_of_lt_of_le h2 h.1)).trans (h.2 k h1 h2)⟩
theorem Kept.of {w w' : World} (h : Below w.heap.size w w') (B : Nat) : Kept B w w' := ⟨h.size, fun k _ h2 => h.block k h2⟩
theorem Kept.set {B : Nat} (w : World) {p : Addr} (hp : p.block < B) (u : Value) : Kept B w (w.setCell p u) :=
 ⟨by simp, fun k h1 _ => Below.heap_setCell w p u k (by omega)⟩
theorem Kept.cell {B : Nat} {w w' : World} (h : Kept B w w') {b o : Nat} (hb : B ≤ b) (hl : b < w.heap.size) : w'.cell? ⟨b, o, none⟩ = w.cell? ⟨b, o, none⟩ :=
 World.cell?_of_block (w := w) (h.2 b hb hl)
abbrev V4 := Int × Int × Nat × Nat
abbrev E2 := Int × Int
structure Tab where
 cols : List Int
 rows : List E2
 cells : List (List V4)
structure Wd where
 gens : List Int
 free : List Int
 tabs : List Tab
 res : List V4
def Els {α : Type} (k : Nat) (E : World → Nat → List Value → α → Prop) (w : World) (B : Nat) (s : Option Addr) (L : List α) : Prop :=
 L = [] ∨ ∃ b o, s = some ⟨b, o, none⟩ ∧ B ≤ b ∧ b < w.heap.size ∧ (∀ j a, L[j]? = some a → ∃ cs, cs.length = k ∧ (∀ i u, cs[i]? = some u → w.cell? ⟨b, o + j * k + i, none⟩ = some u) ∧ E w B cs a) ∧ (0 < B → ∀ j, w.frozen? ⟨b, j, none⟩ = false)
def cInt (w : World) (B : Nat) (cs : List Value) (n : Int) : Prop := cs = [.int .i64 n]
def cEnt (w : World) (B : Nat) (cs : List Value) (p : E2) : Prop := cs = [.int .i64 p.1, .int .i64 p.2]
def okV (v : V4) : Prop := (-9223372036854775808 ≤ v.2.1 ∧ v.2.1 ≤ 9223372036854775807) ∧ v.2.2.1 < 18446744073709551616 ∧ v.2.2.2 < 18446744073709551616
def vcells (v : V4) : List Value := [.int .i64 v.1, .int .i64 v.2.1, .float .f64 v.2.2.1, .float .f64 v.2.2.2]
def cVal (w : World) (B : Nat) (cs : List Value) (v : V4) : Prop := cs = vcells v ∧ okV v
def cVals (w : World) (B : Nat) (cs : List Value) (L : List V4) : Prop := ∃ s c, cs = [.slice s L.length c] ∧ Els 4 cVal w B s L
def cTab (w : World) (B : Nat) (cs : List Value) (t : Tab) : Prop :=
 ∃ s1 c1 s2 c2 s3 c3, cs = [.slice s1 t.cols.length c1, .slice s2 t.rows.length c2, .slice s3 t.cells.length c3] ∧ Els 1 cInt w B s1 t.cols ∧ Els 2 cEnt w B s2 t.rows ∧ Els 1 cVals w B s3 t.cells
def KeepsE {α : Type} (E : World → Nat → List Value → α → Prop) : Prop := ∀ w w' B cs a, Kept B w w' → E w B cs a → E w' B cs a
def DropsE {α : Type} (E : World → Nat → List Value → α → Prop) : Prop := ∀ w B B' cs a, B' ≤ B → E w B cs a → E w B' cs a
theorem Els.kept {α : Type} {k : Nat} {E : World → Nat → List Value → α → Prop} (hE : KeepsE E) {w w' : World} {B : Nat} {s : Option Addr} {L : List α} (h : Els k E w B s L) (hk : Kept B w w') : Els k E w' B s L := by
 rcases h with h0 | ⟨b, o, rfl, h1, h2, h3, hz⟩
 ·
  exact Or.inl h0
 refine Or.inr ⟨b, o, rfl, h1, Nat.lt_of_lt_of_le h2 hk.1, fun j a ha => ?_, fun hB j => (World.frozen?_of_block (w := w) (a := ⟨b, j, none⟩) (hk.2 b h1 h2)).trans (hz hB j)⟩
 obtain ⟨cs, e1, e2, e3⟩ := h3 j a ha
 exact ⟨cs, e1, fun i u hu => (hk.cell h1 h2).trans (e2 i u hu), hE _ _ _ _ _ hk e3⟩
theorem Els.drop {α : Type} {k : Nat} {E : World → Nat → List Value → α → Prop} (hE : DropsE E) {w : World} {B B' : Nat} {s : Option Addr} {L : List α} (h : Els k E w B s L) (hB : B' ≤ B) : Els k E w B' s L := by
 rcases h with h0 | ⟨b, o, rfl, h1, h2, h3, hz⟩
 ·
  exact Or.inl h0
 refine Or.inr ⟨b, o, rfl, Nat.le_trans hB h1, h2, fun j a ha => ?_, fun h0 j => hz (by omega) j⟩
 obtain ⟨cs, e1, e2, e3⟩ := h3 j a ha
 exact ⟨cs, e1, e2, hE _ _ _ _ _ hB e3⟩
theorem Els.nil {α : Type} {k : Nat} {E : World → Nat → List Value → α → Prop} {w : World} {B : Nat} {s : Option Addr} : Els k E w B s ([] : List α) := Or.inl rfl
theorem cInt_keeps : KeepsE cInt := fun _ _ _ _ _ _ h => h
theorem cEnt_keeps : KeepsE cEnt := fun _ _ _ _ _ _ h => h
theorem cVal_keeps : KeepsE cVal := fun _ _ _ _ _ _ h => h
theorem cVals_keeps : KeepsE cVals := fun _ _ _ _ _ hk ⟨s, c, e, h⟩ => ⟨s, c, e, h.kept cVal_keeps hk⟩
theorem cTab_keeps : KeepsE cTab := fun _ _ _ _ _ hk ⟨s1, c1, s2, c2, s3, c3, e, h1, h2, h3⟩ => ⟨s1, c1, s2, c2, s3, c3, e, h1.kept cInt_keeps hk, h2.kept cEnt_keeps hk, h3.kept cVals_keeps hk⟩
theorem cInt_drops : DropsE cInt := fun _ _ _ _ _ _ h => h
theorem cEnt_drops : DropsE cEnt := fun _ _ _ _ _ _ h => h
theorem cVal_drops : DropsE cVal := fun _ _ _ _ _ _ h => h
theorem cVals_drops : DropsE cVals := fun _ _ _ _ _ hB ⟨s, c, e, h⟩ => ⟨s, c, e, h.drop cVal_drops hB⟩
theorem cTab_drops : DropsE cTab := fun _ _ _ _ _ hB ⟨s1, c1, s2, c2, s3, c3, e, h1, h2, h3⟩ => ⟨s1, c1, s2, c2, s3, c3, e, h1.drop cInt_drops hB, h2.drop cEnt_drops hB, h3.drop cVals_drops hB⟩
theorem eInt_cells {w : World} {B : Nat} {s : Option Addr} {L : List Int} (h : Els 1 cInt w B s L) {j : Nat} {a : Int} (ha : L[j]? = some a) :
  ∃ b o, s = some ⟨b, o, none⟩ ∧ B ≤ b ∧ b < w.heap.size ∧ w.cell? ⟨b, o + j, none⟩ = some (.int .i64 a) := by
 rcases h with rfl | ⟨b, o, rfl, h1, h2, h3, hz⟩
 ·
  simp at ha
 obtain ⟨cs, e1, e2, e3⟩ := h3 j a ha
 subst e3
 exact ⟨b, o, rfl, h1, h2, by simpa using e2 0 _ rfl⟩
theorem Els.ints {w : World} {B : Nat} {s : Option Addr} {L : List Int} (h : Els 1 cInt w B s L) : Ints w s L := by
 rcases h with h0 | ⟨b, o, rfl, h1, h2, h3, hz⟩
 ·
  exact Or.inl h0
 refine Or.inr ⟨b, o, rfl, h2, fun j hj => ?_⟩
 obtain ⟨cs, e1, e2, e3⟩ := h3 j (L[j]?.getD 0) (by simp [hj])
 subst e3
 have := e2 0 _ rfl
 rw [Nat.mul_one, Nat.add_zero] at this
 exact this
theorem Els.later {α : Type} {k : Nat} {E : World → Nat → List Value → α → Prop} (hE : KeepsE E) {w w' : World} {B : Nat} {s : Option Addr} {L : List α} (h : Els k E w B s L) (hb : Below w.heap.size w w') : Els k E w' B s L := h.kept hE (Kept.of hb B)
theorem flat_get {α : Type} {k : Nat} {f : α → List Value} (hf : ∀ a, (f a).length = k) : ∀ (L : List α) (j : Nat) (a : α), L[j]? = some a → ∀ i, i < k → (L.flatMap f)[j * k + i]? = (f a)[i]?
 | q :: L, 0, a, h, i, hi => by
  simp at h; subst h
  rw [List.flatMap_cons, List.getElem?_append_left (by rw [hf]; omega)]
  congr 1; omega
 | q :: L, j + 1, a, h, i, hi => by
  have := flat_get hf L j a (by simpa using h) i hi
  rw [List.flatMap_cons, List.getElem?_append_right (by rw [hf, Nat.succ_mul]; omega), hf, ← this]
  congr 1; rw [Nat.succ_mul]; omega
theorem els_of_row {α : Type} {k : Nat} {E : World → Nat → List Value → α → Prop} {f : α → List Value} (hf : ∀ a, (f a).length = k) {w : World} {B g cap : Nat} {T : TypeId} {L : List α} (h : w.ownsRow B T k (.slice (some ⟨g, 0, none⟩) L.length cap) L.length (L.flatMap f)) (hE : ∀ a ∈ L, E w B (f a) a) :
  Els k E w B (some ⟨g, 0, none⟩) L := by
 have hlt := World.ownsRow.lt h g rfl
 refine Or.inr ⟨g, 0, rfl, hlt.1, hlt.2, fun j a ha => ⟨f a, hf a, fun i u hu => ?_, hE a (List.mem_of_getElem? ha)⟩, fun _ j => World.ownsRow.frozenAt h j⟩
 have hi : i < k := by rw [← hf a]; exact (List.getElem?_eq_some_iff.1 hu).1
 have hj : j < L.length := (List.getElem?_eq_some_iff.1 ha).1
 have hx : (j + 1) * k ≤ L.length * k := Nat.mul_le_mul_right _ hj
 rw [Nat.succ_mul] at hx
 rw [Nat.zero_add, World.ownsRow.cellAt h (j * k + i) (by omega), flat_get hf L j a ha i hi, hu]
end
section
open Go.RowKit
theorem get_some {α : Type} {L : List α} {k : Nat} (h : k < L.length) : ∃ a, L[k]? = some a := ⟨L[k], by simp [h]⟩
structure InW (w : World) (B : Nat) (a1 a2 a3 a4 : Option Addr) (W : Wd) : Prop where
 g : Els 1 cInt w B a1 W.gens
 f : Els 1 cInt w B a2 W.free
 t : Els 3 cTab w B a3 W.tabs
 r : Els 4 cVal w B a4 W.res
theorem InW.kept {w w' : World} {B : Nat} {a1 a2 a3 a4 : Option Addr} {W : Wd} (h : InW w B a1 a2 a3 a4 W) (hk : Kept B w w') : InW w' B a1 a2 a3 a4 W :=
 ⟨h.g.kept cInt_keeps hk, h.f.kept cInt_keeps hk, h.t.kept cTab_keeps hk, h.r.kept cVal_keeps hk⟩
theorem InW.later {w w' : World} {B : Nat} {a1 a2 a3 a4 : Option Addr} {W : Wd} (h : InW w B a1 a2 a3 a4 W) (hb : Below w.heap.size w w') : InW w' B a1 a2 a3 a4 W := h.kept (Kept.of hb B)
theorem InW.drop {w : World} {B B' : Nat} {a1 a2 a3 a4 : Option Addr} {W : Wd} (h : InW w B a1 a2 a3 a4 W) (hB : B' ≤ B) : InW w B' a1 a2 a3 a4 W :=
 ⟨h.g.drop cInt_drops hB, h.f.drop cInt_drops hB, h.t.drop cTab_drops hB, h.r.drop cVal_drops hB⟩
end
section
open Go.RowKit
theorem flat_at {k : Nat} : ∀ (U : List (List Value)) (j : Nat) (c : List Value), (∀ c ∈ U, c.length = k) → U[j]? = some c → ∀ i, i < k → U.flatten[j * k + i]? = c[i]?
 | q :: U, 0, c, hU, h, i, hi => by
  simp at h; subst h
  rw [List.flatten_cons, List.getElem?_append_left (by rw [hU q (by simp)]; omega)]
  congr 1; omega
 | q :: U, j + 1, c, hU, h, i, hi => by
  have := flat_at U j c (fun c hc => hU c (by simp [hc])) (by simpa using h) i hi
  have hq := hU q (by simp)
  rw [List.flatten_cons, List.getElem?_append_right (by rw [hq, Nat.succ_mul]; omega), hq, ← this]
  congr 1; rw [Nat.succ_mul]; omega
def Mk {α : Type} (q : Nat) (E : World → Nat → List Value → α → Prop) (z : List Value) (T : TypeId) (w : World) (B g : Nat) (L : List α) (k : Nat) : Prop :=
 z.length = q ∧ k ≤ L.length ∧ ∃ U : List (List Value), U.length = k ∧ (∀ c ∈ U, c.length = q) ∧ (∀ (j : Nat) c a, U[j]? = some c → L[j]? = some a → E w (g + 1) c a) ∧ w.ownsRow B T q (.slice (some ⟨g, 0, none⟩) L.length L.length) L.length (U ++ List.replicate (L.length - k) z).flatten
theorem Mk.later {α : Type} {q : Nat} {E : World → Nat → List Value → α → Prop} (hE : KeepsE E) {z : List Value} {T : TypeId} {w w' : World} {B g : Nat} {L : List α} {k : Nat} (h : Mk q E z T w B g L k) (hb : Below w.heap.size w w') : Mk q E z T w' B g L k := by
 obtain ⟨h1, h2, U, h3, h4, h5, h6⟩ := h
 refine ⟨h1, h2, U, h3, h4, fun j c a hc ha => hE _ _ _ _ _ (Kept.of hb _) (h5 j c a hc ha), ?_⟩
 refine World.ownsRow.kept h6 (grown_of_below hb) ?_
 cases (Value.slice (some ⟨g, 0, none⟩) L.length L.length).ownBlock with
 | none => exact Or.inl rfl
 | some b => exact Or.inr (by simp)
theorem Mk.at {α : Type} {q : Nat} {E : World → Nat → List Value → α → Prop} {z : List Value} {T : TypeId} {w : World} {B g : Nat} {L : List α} {k : Nat} (h : Mk q E z T w B g L k) (hk : k < L.length) : B ≤ g ∧ g < w.heap.size ∧ (∀ o, w.frozen? ⟨g, o, none⟩ = false) ∧ ∀ i u, z[i]? = some u → w.cell? ⟨g, k * q + i, none⟩ = some u := by
 obtain ⟨h1, h2, U, h3, h4, h5, h6⟩ := h
 have hlt := World.ownsRow.lt h6 g rfl
 refine ⟨hlt.1, hlt.2, fun o => World.ownsRow.frozenAt h6 o, fun i u hu => ?_⟩
 have hi : i < q := by rw [← h1]; exact (List.getElem?_eq_some_iff.1 hu).1
 have hx : (k + 1) * q ≤ L.length * q := Nat.mul_le_mul_right _ hk
 rw [Nat.succ_mul] at hx
 have hU : ∀ c ∈ U ++ List.replicate (L.length - k) z, c.length = q := by
  intro c hc
  rcases List.mem_append.1 hc with hc | hc
  ·
   exact h4 c hc
  rw [List.eq_of_mem_replicate hc]; exact h1
 have hz : (U ++ List.replicate (L.length - k) z)[k]? = some z := by
  rw [List.getElem?_append_right (by omega), h3, Nat.sub_self, List.getElem?_replicate, if_pos (by omega)]
 rw [World.ownsRow.cellAt h6 (k * q + i) (by omega), flat_at _ k z hU hz i hi, hu]
end
section
open Go.RowKit
theorem Rows2.ints {w : World} {B g f : Nat} {G F : List Int} (h : Rows2 w B g f G F) : Ints w (some ⟨g, 0, none⟩) G ∧ Ints w (some ⟨f, 0, none⟩) F := ⟨h.1.ints.1, h.2.1.ints.1⟩
end
section
open Go.RowKit
theorem Blk.one {w : World} {n : Nat} {a b : Value} {t : TypeId} (h : Blk w n #[a, b] t) : w.cell? ⟨n, 0, none⟩ = some a ∧ w.cell? ⟨n, 1, none⟩ = some b := ⟨h.cell 0, h.cell 1⟩
end
section
open Go.RowKit
theorem Blk.four' {w : World} {n : Nat} {a b c d : Value} {t : TypeId} (h : Blk w n #[a, b, c, d] t) : w.cell? ⟨n, 0, none⟩ = some a ∧ w.cell? ⟨n, 1, none⟩ = some b ∧ w.cell? ⟨n, 2, none⟩ = some c ∧ w.cell? ⟨n, 3, none⟩ = some d ∧ ∀ o, w.frozen? ⟨n, o, none⟩ = false := ⟨h.cell 0, h.cell 1, h.cell 2, h.cell 3, h.frozen⟩
end
section
open Go.RowKit
theorem blq {B : Nat} {w w' : World} (h : Below B w w' := by (repeat (first | with_reducible exact Below.refl _ _ | with_reducible refine bl_alloc ?_ _ | with_reducible refine bl_drewN ?_ _ | with_reducible refine bl_drew ?_ | with_reducible refine bl_setCell ?_ (by first | exact Nat.le_refl _ | (dsimp only; omega) | (simp <;> omega)) _ | with_reducible refine bl_trans ?_ (by with_reducible assumption)))) : Below B w w' := h
end
end Go.Proofs.YtkkofminndboaaaGreatDoor
