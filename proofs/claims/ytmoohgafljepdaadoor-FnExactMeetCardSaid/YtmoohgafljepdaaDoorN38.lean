import Derived.Test.YtmoohgafljepdaaDoorN37
namespace Go.Proofs.YtmoohgafljepdaaDoor
open Go.RowKit Go.Maps Go.WideMaps
set_option linter.unusedVariables false
set_option linter.unusedSimpArgs false
set_option maxRecDepth 100000

/-- looked at without the word that says whether it is there. -/
theorem PM.look1 {w : World} {b n : Nat} {f : Int × Int → Option Value} (h : PM w b n f) {e : Int × Int} (he : bU e) :
    (Instr.lookup 68 (.map (some b)) (.agg #[.int .u16 e.1, .int .u16 e.2]) false).run Tryd.prog w = .ok ((f e).getD (.slice none 0 0)) w := by
  obtain ⟨D, ⟨es, clock, hb, F, hs, rfl⟩, h2⟩ := h
  have hz := (h2.2 e he).2 (.slice none 0 0)
  rcases fit_look false ukeyed Tryd.underlying68 (zeroMv w) hb F (keyOfU e he) with ⟨hrun, _, hat⟩ | ⟨e0, y, _, _, hrun, hRv, hat, _⟩
  · rw [hat] at hz
    injection hz with hz
    rw [hrun, ← hz]
    rfl
  · rw [hat] at hz
    simp only [anyElem, Option.some.injEq] at hRv
    rw [← hRv] at hz
    injection hz with hz
    rw [hrun, ← hz]
    rfl
end Go.Proofs.YtmoohgafljepdaaDoor
