/-
  DERIVED. GIVEN WITH THE SEED: THE CARDS: each row of YtkbgklnkagpchaaDoorRows.lean that lists a variable, with what it lists TIED to the program's text (the seventh form; the later family's looks); each row that meets fmt, with fmt's text TOLD by the authors' own Lean function (tested against real Go, not proved from fmt's source: count such statements apart). THE CARD IS WHAT COUNTS. Prove the row's statement (the work); the ties are given (YtkbgklnkagpchaaDoorTie.lean); close each card by the builder's one call (the guide's Derived/Test/ToyasCard.lean, 'card_holds'). Laid BY PROGRAM, IN A SANDBOX (cutbox-door.mjs). By AI agents, Wed Nov 11 2026. No macro, syntax, notation, axiom, sorry.
-/
import Derived.Test.YtkbgklnkagpchaaDoorRows
import GoSem.ClaimSeven
namespace Go.Proofs.YtkbgklnkagpchaaDoor
namespace Rows

/-- THE TIED CARD OF 'laws.FnExactPoolMoves'. -/
def fnExactPoolMovesCard : Claim7 := { stood := { row := fnExactPoolMovesRow, standIns := [], harness := (true, "c531b1ff2b8c160502c978ff2f48b3e2eb96c5b611ee3b85cd09f083bd3ee5fa"), looks := false }, kinds := [], alts := [], laidByText := true, laidKinds := [.data], laidTests := true, laidLooks := .later }
def FnExactPoolMovesCardSaid : Prop := Claim7.holds Tryd.pinned (.plain (OpenSpec.ofChange fnExactPoolMovesSpec)) fnExactPoolMovesCard

/-- THE SECOND FORM's CARD OF 'laws.FnExactPoolMoves'. -/
def fnExactPoolMovesUptoCard : Claim7 := { stood := { row := fnExactPoolMovesUptoRow, standIns := [], harness := (true, "c531b1ff2b8c160502c978ff2f48b3e2eb96c5b611ee3b85cd09f083bd3ee5fa"), looks := false }, kinds := [], alts := [], laidByText := true, laidKinds := [.data], laidTests := true, laidLooks := .later }
def FnExactPoolMovesUptoCardSaid : Prop := Claim7.holds Tryd.pinned (.plain (OpenSpec.upto fnExactPoolMovesSpec)) fnExactPoolMovesUptoCard
end Rows
end Go.Proofs.YtkbgklnkagpchaaDoor
