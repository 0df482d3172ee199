import Derived.Test.YtknallkcengbbaaGreatDoorBase
import Derived.Laws.OwnMore
namespace Go.Proofs.YtknallkcengbbaaGreatDoor
open Go.RowKit

/-- a block of cells that no one has frozen. -/
def Blk (w : World) (n : Nat) (c : Array Value) (t : TypeId) : Prop := w.heap[n]? = some (.cells c t (0, 0))
theorem Blk.lt {w : World} {n : Nat} {c : Array Value} {t : TypeId} (h : Blk w n c t) : n < w.heap.size := (Array.getElem?_eq_some_iff.1 h).1
theorem Blk.new (w : World) (c : Array Value) (t : TypeId) : Blk (w.alloc (.cells c t)) w.heap.size c t := heap_alloc_new w _
theorem Blk.new' (w : World) (c : Array Value) (t : TypeId) {n : Nat} (h : n = w.heap.size) : Blk (w.alloc (.cells c t)) n c t := by subst h; exact heap_alloc_new w _
theorem Blk.later {w w' : World} {n : Nat} {c : Array Value} {t : TypeId} (h : Blk w n c t) (hb : Below w.heap.size w w') : Blk w' n c t := by
  unfold Blk; rw [hb.block n h.lt]; exact h
theorem Blk.alloc {w : World} {n : Nat} {c : Array Value} {t : TypeId} (h : Blk w n c t) (o : Obj) : Blk (w.alloc o) n c t := h.later (bl_alloc (Below.refl _ w) o)
theorem Blk.set {w : World} {n : Nat} {c : Array Value} {t : TypeId} (h : Blk w n c t) (o : Nat) (u : Value) : Blk (w.setCell ⟨n, o, none⟩ u) n (c.setIfInBounds o u) t := heap_setCell_same w n o c t u h
theorem Blk.other {w : World} {n : Nat} {c : Array Value} {t : TypeId} (h : Blk w n c t) {m : Nat} (hm : ¬ n = m) (o : Nat) (u : Value) : Blk (w.setCell ⟨m, o, none⟩ u) n c t := by
  unfold Blk; rw [heap_setCell_other w ⟨m, o, none⟩ n u (fun e => hm (by simpa using e))]; exact h
theorem Blk.cell {w : World} {n : Nat} {c : Array Value} {t : TypeId} (h : Blk w n c t) (o : Nat) : w.cell? ⟨n, o, none⟩ = c[o]? := cell_of_row w n o c t (0, 0) h
theorem Blk.frozen {w : World} {n : Nat} {c : Array Value} {t : TypeId} (h : Blk w n c t) (o : Nat) : w.frozen? ⟨n, o, none⟩ = false := frozen_of_row w n o c t h
theorem Blk.two {w : World} {n : Nat} {a b : Value} {t : TypeId} (h : Blk w n #[a, b] t) : w.cell? ⟨n, 0, none⟩ = some a ∧ w.cell? ⟨n, 1, none⟩ = some b ∧ ∀ o, w.frozen? ⟨n, o, none⟩ = false := ⟨h.cell 0, h.cell 1, h.frozen⟩
end Go.Proofs.YtknallkcengbbaaGreatDoor
