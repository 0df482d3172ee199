import Derived.Test.YtbgeobpdojmdaaaDoorG53
import Derived.Test.YtbgeobpdojmdaaaDoorG51
import Derived.Test.YtbgeobpdojmdaaaDoorSk
import Derived.Deep.RegionHeld3
namespace Go.Proofs.YtbgeobpdojmdaaaDoor
open Go.RowKit
set_option linter.unusedVariables false
set_option linter.unusedSimpArgs false

theorem nx_least {L : List (Int × Int)} {n x left lm y z : Nat} (hin : Inn n L) (h16 : In16 L) (hn : n ≤ 16) (hl : left = lm + 1) (h : nxC (eR L) n x left y = some z) : Least (fun i => eR L y i && bk L lm x i) z := by
  have hR := hin.sup
  have key : ∀ i, bk L lm x i = rch (eR L) n i left x := by
    intro i
    rw [Bool.eq_iff_iff, bk_iff h16, rch_iff hR, hl]
  unfold nxC at h
  rw [List.find?_range_eq_some] at h
  obtain ⟨h1, h2, h3⟩ := h
  have h2 : z < n := by simpa using h2
  refine ⟨by omega, by show (eR L y z && bk L lm x z) = true; rw [key]; exact h1, fun i hi => ?_⟩
  have := h3 i hi
  show (eR L y i && bk L lm x i) = false
  rw [key]
  cases hh : (eR L y i && rch (eR L) n i left x)
  · rfl
  · simp only [hh] at this
    cases this

end Go.Proofs.YtbgeobpdojmdaaaDoor
