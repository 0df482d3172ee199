import Derived.Test.YtbgeobpdojmdaaaDoorG51
namespace Go.Proofs.YtbgeobpdojmdaaaDoor
open Go.RowKit
set_option linter.unusedVariables false
set_option linter.unusedSimpArgs false

theorem nxC_is {R : Nat → Nat → Bool} {n x left y z : Nat} (hz : z < n) (h : (R y z && rch R n z left x) = true) (h0 : ∀ q, q < z → (R y q && rch R n q left x) = false) : nxC R n x left y = some z := by
  unfold nxC
  rw [List.find?_range_eq_some]
  exact ⟨h, by simpa using hz, fun q hq => by simp [h0 q hq]⟩

theorem VRow.rd {w : World} {B : Nat} {s : Option Addr} {n c : Nat} {G : List Int} (h : VRow w B (.slice s n c) G) : Ints w s G := by
  obtain ⟨s', c', e, hi⟩ := h.slice
  simp only [Value.slice.injEq] at e
  obtain ⟨rfl, -, -⟩ := e
  exact hi

end Go.Proofs.YtbgeobpdojmdaaaDoor
