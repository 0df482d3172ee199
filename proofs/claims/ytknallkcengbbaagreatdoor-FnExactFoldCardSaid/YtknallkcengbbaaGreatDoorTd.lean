import Derived.Test.YtknallkcengbbaaGreatDoorTc
import Derived.Test.YtknallkcengbbaaGreatDoorEi
namespace Go.Proofs.YtknallkcengbbaaGreatDoor
open Go.RowKit
set_option linter.unusedVariables false
set_option linter.unusedSimpArgs false

/-- what a copy of a list leaves. -/
def Made {α : Type} (q : Nat) (E : World → Nat → List Value → α → Prop) (w : World) (L : List α) (e : Ending) (w' : World) : Prop :=
  ∃ g, e = .returned (.slice (some ⟨g, 0, none⟩) L.length L.length) ∧ w.heap.size ≤ g ∧ Els q E w' g (some ⟨g, 0, none⟩) L ∧ Below w.heap.size w w'

theorem row_els {w : World} {B g n cap : Nat} {G : List Int} (h : Row w B (some ⟨g, 0, none⟩) n cap G) : Els 1 cInt w g (some ⟨g, 0, none⟩) G := by
  have hl := h.ints.2
  refine Or.inr ⟨g, 0, rfl, Nat.le_refl _, h.lt.2, fun j a ha => ?_, fun _ j => World.ownsRow.frozenAt h j⟩
  have hj : j < G.length := (List.getElem?_eq_some_iff.1 ha).1
  refine ⟨[.int .i64 a], rfl, fun i u hu => ?_, rfl⟩
  have hi : i = 0 := by
    have := (List.getElem?_eq_some_iff.1 hu).1
    simp at this; exact this
  subst hi
  simp at hu
  subst hu
  have := (h.cell j (by omega)).1
  rw [ha] at this
  simpa using this

theorem toInts_made (s : Option Addr) (c : Nat) (L : List Int) (B : Nat) (w : World) (hL : Els 1 cInt w B s L) (hl : L.length ≤ 1048576) :
    Calls Tryz.prog 22 #[.slice s L.length c] w fun e w' => Made 1 cInt w L e w' :=
  (toInts_any s c L w hL.ints hl).mono fun e w' ⟨h1, h2, h3⟩ => ⟨_, h1, Nat.le_refl _, row_els h2, h3⟩

theorem Tryz.infoV : (Tryz.prog.info? 76).map (fun i => (i.zero, i.size, i.bytes)) = some (some (.agg #[.int .i64 0, .int .i64 0, .float .f64 0, .float .f64 0]), 4, 32) := by kernel_rfl
end Go.Proofs.YtknallkcengbbaaGreatDoor
