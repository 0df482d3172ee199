import Derived.Test.YtgcfhoojjgcpiaaDoorTe
import Derived.Deep.RegionHeld3
import Derived.Test.YtgcfhoojjgcpiaaDoorMm
namespace Go.Proofs.YtgcfhoojjgcpiaaDoor
open Go.RowKit Go.Maps Go.WideMaps
set_option linter.unusedVariables false
set_option linter.unusedSimpArgs false
set_option maxRecDepth 100000

theorem boxTwo (w : World) (c d : Array Value) (t u : TypeId) : Blk ((w.alloc (.cells c t)).alloc (.cells d u)) w.heap.size c t ∧ Blk ((w.alloc (.cells c t)).alloc (.cells d u)) (w.heap.size + 1) d u ∧ Below w.heap.size w ((w.alloc (.cells c t)).alloc (.cells d u)) :=
  ⟨(blk2 w c d t u).1, (blk2 w c d t u).2, bl_alloc (bl_alloc (Below.refl _ _) _) _⟩
/-- the number of a column. -/
def cmpB (A : List (ByteArray × Int)) (c : Int) : Bool := decide (0 ≤ c) && decide (c < (A.length : Int))
def okV4 (v : V4) : Bool := okB v.1 v.2.1 v.2.2.1 v.2.2.2
/-- a right value of a kind. -/
def vofB (k : Int) (v : V4) : Bool := v.1 == k && okV4 v
/-- a column's number with a right value of its kind. -/
def fitB (A : List (ByteArray × Int)) (c : Int) (v : V4) : Bool := cmpB A c && vofB (dAt A c.toNat).2 v

theorem kcell {W w1 : World} {b o : Nat} {v : Value} (hb : Below W.heap.size W w1) (h : W.cell? ⟨b, o, none⟩ = some v) : w1.cell? ⟨b, o, none⟩ = some v := (hb.cell (p := ⟨b, o, none⟩) (World.block_lt_of_cell? _ _ h)).trans h

/-- the resources' values: as many as declared, each right and of its kind. -/
def resB (B : List (ByteArray × Int)) (R : List V4) : Bool := decide (R.length = B.length) && (List.range R.length).all fun j => R[j]?.elim true (vofB (dAt B j).2)
theorem resB_len {B : List (ByteArray × Int)} {R : List V4} (h : ¬ R.length = B.length) : false = resB B R := by simp [resB, h]
theorem resB_at {B : List (ByteArray × Int)} {R : List V4} {j : Nat} {v : V4} (hv : R[j]? = some v) (h : vofB (dAt B j).2 v = false) : false = resB B R := by
  cases hs : resB B R
  · rfl
  · simp only [resB, Bool.and_eq_true, decide_eq_true_eq, List.all_eq_true, List.mem_range] at hs
    have := hs.2 j (by have := (List.getElem?_eq_some_iff.mp hv).1; exact this)
    rw [hv] at this
    simp only [Option.elim] at this
    rw [h] at this; cases this
theorem resB_all {B : List (ByteArray × Int)} {R : List V4} (hn : R.length = B.length) (h : ∀ (j : Nat) v, R[j]? = some v → vofB (dAt B j).2 v = true) : true = resB B R := by
  symm
  simp only [resB, Bool.and_eq_true, decide_eq_true_eq, List.all_eq_true, List.mem_range]
  refine ⟨hn, fun j hj => ?_⟩
  rw [List.getElem?_eq_getElem hj]
  exact h j _ (List.getElem?_eq_getElem hj)

end Go.Proofs.YtgcfhoojjgcpiaaDoor
