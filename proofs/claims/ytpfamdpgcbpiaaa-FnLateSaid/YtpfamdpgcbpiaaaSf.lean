import Derived.Test.YtpfamdpgcbpiaaaSe
namespace Go.Proofs.Ytpfamdpgcbpiaaa
open Go.RowKit
set_option linter.unusedVariables false
set_option linter.unusedSimpArgs false

/-- two lists share no block. -/
def Ap (v u : Value) : Prop := ∀ g, v.ownBlock = some g → ¬ u.ownBlock = some g
/-- nothing turns but blocks from B on, and of what was there the two lists' own. -/
def Just2 (v u : Value) (B : Nat) (w w' : World) : Prop := Below B w w' ∧ ∀ k, ¬ v.ownBlock = some k → ¬ u.ownBlock = some k → k < w.heap.size → w'.heap[k]? = w.heap[k]?
theorem OV.same {w w' : World} {B : Nat} {u : Value} {L : List V4} (h : OV w B u L) (hs : ∀ g, u.ownBlock = some g → g < w.heap.size → w'.heap[g]? = w.heap[g]?) : OV w' B u L := by
  refine ⟨h.1, ?_⟩
  rcases h.2 with h' | ⟨g, cap', cur, h', hb', hg, r⟩
  · exact Or.inl h'
  · refine Or.inr ⟨g, cap', cur, h', hb', ?_, r⟩
    subst h'
    exact (hs g rfl (Array.getElem?_eq_some_iff.1 hg).1).trans hg
theorem OV.just {w w' : World} {B C : Nat} {v u : Value} {L : List V4} (h : OV w B u L) (hj : Just v C w w') (ha : Ap v u) : OV w' B u L :=
  h.same fun g hg hl => hj.2 g (fun e => ha g e hg) hl
theorem OV.lt {w : World} {B : Nat} {v : Value} {L : List V4} (h : OV w B v L) : ∀ g, v.ownBlock = some g → B ≤ g ∧ g < w.heap.size := World.ownsRow.lt h

end Go.Proofs.Ytpfamdpgcbpiaaa
