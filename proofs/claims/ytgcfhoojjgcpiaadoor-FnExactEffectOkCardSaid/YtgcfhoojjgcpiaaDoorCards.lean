/-
  DERIVED. GIVEN WITH THE SEED: THE CARDS: each row of YtgcfhoojjgcpiaaDoorRows.lean that lists a variable, with what it lists TIED to the program's text (the seventh form; the later family's looks); each row that meets fmt, with fmt's text TOLD by the authors' own Lean function (tested against real Go, not proved from fmt's source: count such statements apart). THE CARD IS WHAT COUNTS. Prove the row's statement (the work); the ties are given (YtgcfhoojjgcpiaaDoorTie.lean); close each card by the builder's one call (the guide's Derived/Test/ToyasCard.lean, 'card_holds'). Laid BY PROGRAM, IN A SANDBOX (cutbox-door.mjs). By AI agents, Wed Nov 11 2026. No macro, syntax, notation, axiom, sorry.
-/
import Derived.Test.YtgcfhoojjgcpiaaDoorRows
import GoSem.ClaimSeven
namespace Go.Proofs.YtgcfhoojjgcpiaaDoor
namespace Rows

/-- THE TIED CARD OF 'laws.FnExactEffectOk'. -/
def fnExactEffectOkCard : Claim7 := { stood := { row := fnExactEffectOkRow, standIns := [], harness := (true, "827f5f4b205a4221bfb6e51600296f5d86f9fcc3a39d5a52dc85482389f724b7"), looks := false }, kinds := [], alts := [], laidByText := true, laidKinds := [.data], laidTests := true, laidLooks := .later }
def FnExactEffectOkCardSaid : Prop := Claim7.holds Tryd.pinned (.plain (OpenSpec.ofChange fnExactEffectOkSpec)) fnExactEffectOkCard

/-- THE SECOND FORM's CARD OF 'laws.FnExactEffectOk'. -/
def fnExactEffectOkUptoCard : Claim7 := { stood := { row := fnExactEffectOkUptoRow, standIns := [], harness := (true, "827f5f4b205a4221bfb6e51600296f5d86f9fcc3a39d5a52dc85482389f724b7"), looks := false }, kinds := [], alts := [], laidByText := true, laidKinds := [.data], laidTests := true, laidLooks := .later }
def FnExactEffectOkUptoCardSaid : Prop := Claim7.holds Tryd.pinned (.plain (OpenSpec.upto fnExactEffectOkSpec)) fnExactEffectOkUptoCard
end Rows
end Go.Proofs.YtgcfhoojjgcpiaaDoor
