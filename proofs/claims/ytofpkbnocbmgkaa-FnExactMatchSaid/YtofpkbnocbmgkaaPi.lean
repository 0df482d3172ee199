import Derived.Test.YtofpkbnocbmgkaaPw
namespace Go.Proofs.Ytofpkbnocbmgkaa
open Go.ChangeShapes Go.WideShapes Go.ChangeAt Go.RowKit Go.Joins
set_option linter.unusedVariables false
set_option maxRecDepth 100000
section
variable {H : Type} {enc : TypeId × Value → H} {w : World} {base : Nat} {spare : Nat → Bool} {held : Bool}
theorem openIs {r : Reach} {b0 : Nat} {v : Value} {d : DataW H} {p : List MemPlace} (hv : Value.okWide Try.prog w r b0 25 v) (h : DataW.Trod enc Try.prog w base spare held 25 v d p) :
    ∃ s c L, v = .slice s (List.length (α := Int) L) c ∧ Els 1 cInt w 0 s L ∧ L.length ≤ 9223372036854775807 := by
  obtain ⟨a, len, cap, rfl⟩ := okWide_slice Try.underlying25 hv
  obtain ⟨fuel, hf⟩ := h
  obtain ⟨s, c, L, e, f, _, ml⟩ := openEls Try.underlying25 Try.cellsI (by omega) oneInt hf
  have e' : [Value.slice a len cap] = [.slice s L.length c] := e
  simp only [List.cons.injEq, and_true] at e'
  exact ⟨s, c, L, e', f, ml⟩
end
end Go.Proofs.Ytofpkbnocbmgkaa
