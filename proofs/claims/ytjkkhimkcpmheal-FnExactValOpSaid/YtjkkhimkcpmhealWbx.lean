import Derived.Test.YtjkkhimkcpmhealWo
import Derived.Test.YtjkkhimkcpmhealWd
namespace Go.Proofs.Ytjkkhimkcpmheal
open Go.RowKit

theorem eqB_of {o : V} {k i : Int} {x y : Nat} {l j : Int} {u v : Nat} (h : VIs o k i x y) (g : VIs o l j u v) : eqB k i x y l j u v = true := by
  obtain ⟨rfl, rfl, hx, hy⟩ := h
  obtain ⟨rfl, rfl, hu, hv⟩ := g
  simp [eqB, hx.same hu, hy.same hv]

theorem bcell2 {W w1 : World} (hb : Below W.heap.size W w1) : (∀ b o, (W.cell? ⟨b, o, none⟩).isSome = true → w1.cell? ⟨b, o, none⟩ = W.cell? ⟨b, o, none⟩) ∧ (∀ b o, (W.cell? ⟨b, o, none⟩).isSome = true → w1.frozen? ⟨b, o, none⟩ = W.frozen? ⟨b, o, none⟩) := by
  refine ⟨fun b o h => ?_, fun b o h => ?_⟩
  · obtain ⟨v, hv⟩ := Option.isSome_iff_exists.1 h
    exact hb.cell (p := ⟨b, o, none⟩) (World.block_lt_of_cell? _ _ hv)
  · obtain ⟨v, hv⟩ := Option.isSome_iff_exists.1 h
    exact hb.frozen (p := ⟨b, o, none⟩) (World.block_lt_of_cell? _ _ hv)
theorem alloc_old (W : World) (ob : Obj) (b o : Nat) (h : (W.cell? ⟨b, o, none⟩).isSome = true) : (W.alloc ob).cell? ⟨b, o, none⟩ = W.cell? ⟨b, o, none⟩ :=
  (bcell2 (bl_alloc (Below.refl _ W) ob)).1 b o h
theorem alloc_oldf (W : World) (ob : Obj) (b o : Nat) (h : (W.cell? ⟨b, o, none⟩).isSome = true) : (W.alloc ob).frozen? ⟨b, o, none⟩ = W.frozen? ⟨b, o, none⟩ :=
  (bcell2 (bl_alloc (Below.refl _ W) ob)).2 b o h

/-- the box of a value. -/
def Box (n : Nat) (W : World) (k i : Int) (x y : Nat) : Prop :=
  W.cell? ⟨n, 0, none⟩ = some (.int .i64 k) ∧ W.cell? ⟨n, 1, none⟩ = some (.int .i64 i) ∧ W.cell? ⟨n, 2, none⟩ = some (.float .f64 x) ∧ W.cell? ⟨n, 3, none⟩ = some (.float .f64 y)
theorem box_later {n : Nat} {W w1 : World} {k i : Int} {x y : Nat} (hb : Below W.heap.size W w1) (h : Box n W k i x y) : Box n w1 k i x y :=
  ⟨cell_later hb h.1, cell_later hb h.2.1, cell_later hb h.2.2.1, cell_later hb h.2.2.2⟩

theorem box_then {n : Nat} {W w1 : World} {p : Prop} {k i : Int} {x y : Nat} (hb : Below W.heap.size W w1) (h : Box n W k i x y) (q : Box n w1 k i x y → p) : p := q (box_later hb h)

theorem box_new (w : World) (k i : Int) (x y : Nat) (t : TypeId) : Box w.heap.size (w.alloc (.cells #[.int .i64 k, .int .i64 i, .float .f64 x, .float .f64 y] t)) k i x y := by
  refine ⟨?_, ?_, ?_, ?_⟩ <;> simp
theorem box_set {n : Nat} {W : World} {k i : Int} {x y : Nat} (h : Box n W 0 0 0 0) : Box n ((((W.setCell ⟨n, 0, none⟩ (.int .i64 k)).setCell ⟨n, 1, none⟩ (.int .i64 i)).setCell ⟨n, 2, none⟩ (.float .f64 x)).setCell ⟨n, 3, none⟩ (.float .f64 y)) k i x y := by
  obtain ⟨h0, h1, h2, h3⟩ := h
  refine ⟨?_, ?_, ?_, ?_⟩ <;> go_simp
end Go.Proofs.Ytjkkhimkcpmheal
