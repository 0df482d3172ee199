import Derived.Test.YtknallkcengbbaaGreatDoorWb
namespace Go.Proofs.YtknallkcengbbaaGreatDoor
open Go.RowKit

theorem bcell {W w1 : World} (hb : Below W.heap.size W w1) : (∀ b o, b < W.heap.size → w1.cell? ⟨b, o, none⟩ = W.cell? ⟨b, o, none⟩) ∧ (∀ b o, b < W.heap.size → w1.frozen? ⟨b, o, none⟩ = W.frozen? ⟨b, o, none⟩) :=
  ⟨fun b o h => hb.cell (p := ⟨b, o, none⟩) h, fun b o h => hb.frozen (p := ⟨b, o, none⟩) h⟩

theorem bl_trans {a b c : World} (h : Below a.heap.size a b) (k : Below b.heap.size b c) : Below a.heap.size a c := h.trans (k.mono h.size)
theorem bl_lt {n : Nat} {W w1 : World} (hb : Below W.heap.size W w1) (h : n < W.heap.size) : n < w1.heap.size := Nat.lt_of_lt_of_le h hb.size
theorem bl_then {n : Nat} {W w1 : World} {p : Prop} (hb : Below W.heap.size W w1) (h : n < W.heap.size) (k : n < w1.heap.size → p) : p := k (bl_lt hb h)
theorem bl_setCell {a b : World} (h : Below a.heap.size a b) {q : Addr} (hq : a.heap.size ≤ q.block) (u : Value) : Below a.heap.size a (b.setCell q u) := h.setCell hq u
theorem bl_then2 {n : Nat} {W w1 : World} {p : Prop} (hb : Below W.heap.size W w1) (h : n + 1 < W.heap.size) (k : n < w1.heap.size → n + 1 < w1.heap.size → p) : p := k (Nat.lt_of_succ_lt (bl_lt hb h)) (bl_lt hb h)
theorem bl_alloc {a b : World} (h : Below a.heap.size a b) (o : Obj) : Below a.heap.size a (b.alloc o) := h.alloc h.size o
theorem bl_drew {a b : World} (h : Below a.heap.size a b) : Below a.heap.size a b.drew := h.drew
theorem bl_drewN {a b : World} (h : Below a.heap.size a b) (n : Nat) : Below a.heap.size a (b.drewN n) := ⟨h.os, h.tape, h.output, h.size, h.block⟩

/-- the boxes of two values, one behind the other. -/
def Two (n : Nat) (W : World) (k i : Int) (x y : Nat) (l j : Int) (u v : Nat) : Prop :=
  W.cell? ⟨n, 0, none⟩ = some (.int .i64 k) ∧ W.cell? ⟨n, 1, none⟩ = some (.int .i64 i) ∧ W.cell? ⟨n, 2, none⟩ = some (.float .f64 x) ∧ W.cell? ⟨n, 3, none⟩ = some (.float .f64 y) ∧
  W.cell? ⟨n + 1, 0, none⟩ = some (.int .i64 l) ∧ W.cell? ⟨n + 1, 1, none⟩ = some (.int .i64 j) ∧ W.cell? ⟨n + 1, 2, none⟩ = some (.float .f64 u) ∧ W.cell? ⟨n + 1, 3, none⟩ = some (.float .f64 v)
theorem two_later {n : Nat} {W w1 : World} {k i : Int} {x y : Nat} {l j : Int} {u v : Nat} (hb : Below W.heap.size W w1) (h : Two n W k i x y l j u v) : Two n w1 k i x y l j u v :=
  ⟨cell_later hb h.1, cell_later hb h.2.1, cell_later hb h.2.2.1, cell_later hb h.2.2.2.1, cell_later hb h.2.2.2.2.1, cell_later hb h.2.2.2.2.2.1, cell_later hb h.2.2.2.2.2.2.1, cell_later hb h.2.2.2.2.2.2.2⟩
theorem two_new (w : World) (k i : Int) (x y : Nat) (l j : Int) (u v : Nat) (t : TypeId) : Two w.heap.size ((w.alloc (.cells #[.int .i64 k, .int .i64 i, .float .f64 x, .float .f64 y] t)).alloc (.cells #[.int .i64 l, .int .i64 j, .float .f64 u, .float .f64 v] t)) k i x y l j u v := by
  refine ⟨?_, ?_, ?_, ?_, ?_, ?_, ?_, ?_⟩ <;> simp

end Go.Proofs.YtknallkcengbbaaGreatDoor
