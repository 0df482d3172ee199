import Derived.Test.YtnockfpobpidgaaGreatSl12
namespace Go.Proofs.YtnockfpobpidgaaGreat
open Go.RowKit Go.Maps Go.WideMaps
set_option linter.unusedVariables false
set_option linter.unusedSimpArgs false
set_option maxRecDepth 100000
def colB (A : List (ByteArray × Int)) (t : Tab) (j : Nat) : Bool :=
 cmpB A (t.cols.getD j 0) && (decide (j = 0) || decide (t.cols.getD (j - 1) 0 < t.cols.getD j 0)) && decide ((t.cells.getD j []).length = t.rows.length) && (t.cells.getD j []).all (vofB (dAt A (t.cols.getD j 0).toNat).2)
def tabB (A : List (ByteArray × Int)) (t : Tab) : Bool := decide (t.cells.length = t.cols.length) && (List.range t.cols.length).all (colB A t)
theorem tabB_len {A : List (ByteArray × Int)} {t : Tab} (h : ¬ t.cells.length = t.cols.length) : false = tabB A t := by simp [tabB, h]
theorem tabB_at {A : List (ByteArray × Int)} {t : Tab} {j : Nat} (hj : j < t.cols.length) (h : colB A t j = false) : false = tabB A t := by
 cases hs : tabB A t
 ·
  rfl
 ·
  simp only [tabB, Bool.and_eq_true, decide_eq_true_eq, List.all_eq_true, List.mem_range] at hs
  have := hs.2 j hj
  rw [h] at this; cases this
theorem tabB_all {A : List (ByteArray × Int)} {t : Tab} (hn : t.cells.length = t.cols.length) (h : ∀ (j : Nat), j < t.cols.length → colB A t j = true) : true = tabB A t := by
 symm
 simp only [tabB, Bool.and_eq_true, decide_eq_true_eq, List.all_eq_true, List.mem_range]
 exact ⟨hn, h⟩
theorem colB_eq {A : List (ByteArray × Int)} {t : Tab} {j : Nat} {c : Int} {L : List V4} (EC : t.cols.getD j 0 = c) (EL : t.cells.getD j [] = L) : colB A t j = (cmpB A c && (decide (j = 0) || decide (t.cols.getD (j - 1) 0 < c)) && decide (L.length = t.rows.length) && L.all (vofB (dAt A c.toNat).2)) := by
 unfold colB
 rw [EC, EL]
theorem getD_of {α : Type} {L : List α} {j : Nat} {a d : α} (h : L[j]? = some a) : L.getD j d = a := by simp [List.getD, h]
end Go.Proofs.YtnockfpobpidgaaGreat
