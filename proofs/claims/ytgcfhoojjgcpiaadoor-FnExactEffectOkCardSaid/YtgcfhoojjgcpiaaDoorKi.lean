import Derived.Test.YtgcfhoojjgcpiaaDoorTz
import Derived.Test.YtgcfhoojjgcpiaaDoorKa
namespace Go.Proofs.YtgcfhoojjgcpiaaDoor
open Go.RowKit Go.Maps Go.WideMaps
set_option linter.unusedVariables false
set_option linter.unusedSimpArgs false
set_option maxRecDepth 100000

theorem sl_eqI (L M : List Int) : sl eqI L M = decide (L = M) := by
  cases h : sl eqI L M
  · symm
    rw [decide_eq_false_iff_not]
    intro e
    subst e
    have : true = sl eqI L L := sl_all rfl (fun j a b hj ha hb => by rw [ha] at hb; cases hb; simp [eqI])
    rw [h] at this
    cases this
  · symm
    rw [decide_eq_true_eq]
    simp only [sl, Bool.and_eq_true, decide_eq_true_eq, List.all_eq_true] at h
    apply List.ext_getElem h.1
    intro i h1 h2
    have hz : (L.zip M)[i]? = some (L[i], M[i]) := by rw [List.getElem?_zip_eq_some]; exact ⟨List.getElem?_eq_getElem h1, List.getElem?_eq_getElem h2⟩
    have := h.2 _ (List.mem_of_getElem? hz)
    simpa [eqI] using this
/-- one of these tables has just these columns. -/
def hasC (T : List Tab) (cols : List Int) : Bool := T.any (fun t => sl eqI t.cols cols)

end Go.Proofs.YtgcfhoojjgcpiaaDoor
