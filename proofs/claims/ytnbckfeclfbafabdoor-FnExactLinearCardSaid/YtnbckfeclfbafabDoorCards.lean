/-
  DERIVED. GIVEN WITH THE SEED: THE CARDS: each row of YtnbckfeclfbafabDoorRows.lean that lists a variable, with what it lists TIED to the program's text (the seventh form; the later family's looks); each row that meets fmt, with fmt's text TOLD by the authors' own Lean function (tested against real Go, not proved from fmt's source: count such statements apart). THE CARD IS WHAT COUNTS. Prove the row's statement (the work); the ties are given (YtnbckfeclfbafabDoorTie.lean); close each card by the builder's one call (the guide's Derived/Test/ToyasCard.lean, 'card_holds'). Laid BY PROGRAM, IN A SANDBOX (cutbox-door.mjs). By AI agents, Wed Nov 11 2026. No macro, syntax, notation, axiom, sorry.
-/
import Derived.Test.YtnbckfeclfbafabDoorRows
import GoSem.ClaimSeven
namespace Go.Proofs.YtnbckfeclfbafabDoor
namespace Rows

/-- THE TIED CARD OF 'laws.FnExactLinear'. -/
def fnExactLinearCard : Claim7 := { stood := { row := fnExactLinearRow, standIns := [], harness := (true, "1571775dc1208c67b422c0d9d69277d9be5eb649db2be4d360e7eb687c08b526"), looks := false }, kinds := [], alts := [], laidByText := true, laidKinds := [.data], laidTests := true, laidLooks := .later }
def FnExactLinearCardSaid : Prop := Claim7.holds Tryd.pinned (.plain (OpenSpec.ofChange fnExactLinearSpec)) fnExactLinearCard

/-- THE SECOND FORM's CARD OF 'laws.FnExactLinear'. -/
def fnExactLinearUptoCard : Claim7 := { stood := { row := fnExactLinearUptoRow, standIns := [], harness := (true, "1571775dc1208c67b422c0d9d69277d9be5eb649db2be4d360e7eb687c08b526"), looks := false }, kinds := [], alts := [], laidByText := true, laidKinds := [.data], laidTests := true, laidLooks := .later }
def FnExactLinearUptoCardSaid : Prop := Claim7.holds Tryd.pinned (.plain (OpenSpec.upto fnExactLinearSpec)) fnExactLinearUptoCard
end Rows
end Go.Proofs.YtnbckfeclfbafabDoor
