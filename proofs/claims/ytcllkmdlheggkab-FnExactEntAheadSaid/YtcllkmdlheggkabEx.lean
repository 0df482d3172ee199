import Derived.Test.YtcllkmdlheggkabEw
import Derived.Test.YtcllkmdlheggkabEv
namespace Go.Proofs.Ytcllkmdlheggkab
open Go.RowKit
set_option linter.unusedVariables false

/-- the generation behind one. -/
def ng (g : Int) : Int := if 1000000 ≤ g then 0 else g + 1

theorem blk3 (w : World) (c d e : Array Value) (t u v : TypeId) : Blk (((w.alloc (.cells c t)).alloc (.cells d u)).alloc (.cells e v)) w.heap.size c t ∧ Blk (((w.alloc (.cells c t)).alloc (.cells d u)).alloc (.cells e v)) (w.heap.size + 1) d u ∧ Blk (((w.alloc (.cells c t)).alloc (.cells d u)).alloc (.cells e v)) (w.heap.size + 1 + 1) e v :=
  ⟨((Blk.new w c t).alloc _).alloc _, (Blk.new' _ d u (by simp)).alloc _, Blk.new' _ e v (by simp)⟩

theorem VRow.alloc' {w : World} {B : Nat} {v : Value} {G : List Int} (h : VRow w B v G) (o : Obj) : VRow (w.alloc o) B v G := h.later (bl_alloc (Below.refl _ w) o)
theorem VRow.cell {w : World} {B g c : Nat} {G : List Int} (h : VRow w B (.slice (some ⟨g, 0, none⟩) G.length c) G) {q : Nat} (hq : q < G.length) : w.cell? ⟨g, q, none⟩ = some (.int .i64 (G[q]?.getD 0)) ∧ w.frozen? ⟨g, q, none⟩ = false := Row.cell h q hq
theorem VRow.setv {w : World} {B g c : Nat} {G : List Int} (h : VRow w B (.slice (some ⟨g, 0, none⟩) G.length c) G) (q : Nat) (x : Int) : VRow (w.setCell ⟨g, q, none⟩ (.int .i64 x)) B (.slice (some ⟨g, 0, none⟩) G.length c) (G.set q x) := by
  have := Row.set h q x
  unfold VRow
  rw [List.length_set]
  exact this
theorem VRow.ge {w : World} {B g n c : Nat} {G : List Int} (h : VRow w B (.slice (some ⟨g, 0, none⟩) n c) G) : B ≤ g ∧ g < w.heap.size := World.ownsRow.lt h g rfl

/-- of what was there only blocks g and f may have turned. -/
structure Fr (g f : Nat) (w w' : World) : Prop where
  os : w'.os = w.os
  tape : w'.tape = w.tape
  output : w'.output = w.output
  size : w.heap.size ≤ w'.heap.size
  block : ∀ k, k < w.heap.size → ¬ k = g → ¬ k = f → w'.heap[k]? = w.heap[k]?
theorem Fr.refl (g f : Nat) (w : World) : Fr g f w w := ⟨rfl, rfl, rfl, Nat.le_refl _, fun _ _ _ _ => rfl⟩
theorem Fr.of_below {g f : Nat} {a b : World} (h : Below a.heap.size a b) : Fr g f a b := ⟨h.os, h.tape, h.output, h.size, fun k hk _ _ => h.block k hk⟩
theorem Fr.alloc {g f : Nat} {a b : World} (h : Fr g f a b) (o : Obj) : Fr g f a (b.alloc o) :=
  ⟨h.os, h.tape, h.output, by simp; have := h.size; omega, fun k hk h1 h2 => by rw [Below.heap_alloc b o k (Nat.lt_of_lt_of_le hk h.size)]; exact h.block k hk h1 h2⟩
theorem Fr.setCell {g f : Nat} {a b : World} (h : Fr g f a b) {n : Nat} (hn : n = g ∨ n = f ∨ a.heap.size ≤ n) (o : Nat) (u : Value) : Fr g f a (b.setCell ⟨n, o, none⟩ u) :=
  ⟨h.os, h.tape, h.output, by simp; exact h.size, fun k hk h1 h2 => by rw [Below.heap_setCell b ⟨n, o, none⟩ u k (by simp; omega)]; exact h.block k hk h1 h2⟩
theorem Fr.grown {g f : Nat} {a b c : World} (h : Fr g f a b) (hg : b.grownBy c (some f)) : Fr g f a c :=
  ⟨hg.os.trans h.os, hg.tape.trans h.tape, hg.output.trans h.output, Nat.le_trans h.size hg.size, fun k hk h1 h2 => (hg.block k (Nat.lt_of_lt_of_le hk h.size) (by simp; omega)).trans (h.block k hk h1 h2)⟩
theorem Fr.below {g f B : Nat} {a b : World} (h : Fr g f a b) (h1 : B ≤ g) (h2 : B ≤ f) (h3 : B ≤ a.heap.size) : Below B a b := ⟨h.os, h.tape, h.output, h.size, fun k hk => h.block k (by omega) (by omega) (by omega)⟩
theorem Blk.fr {g f : Nat} {a b : World} {n : Nat} {c : Array Value} {t : TypeId} (h : Blk a n c t) (hf : Fr g f a b) (h1 : ¬ n = g) (h2 : ¬ n = f) : Blk b n c t := by
  unfold Blk; rw [hf.block n h.lt h1 h2]; exact h

end Go.Proofs.Ytcllkmdlheggkab
