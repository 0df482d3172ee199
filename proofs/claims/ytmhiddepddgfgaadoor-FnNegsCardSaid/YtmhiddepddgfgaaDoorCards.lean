/-
  DERIVED. GIVEN WITH THE SEED: THE CARDS: each row of YtmhiddepddgfgaaDoorRows.lean that lists a variable, with what it lists TIED to the program's text (the seventh form; the later family's looks); each row that meets fmt, with fmt's text TOLD by the authors' own Lean function (tested against real Go, not proved from fmt's source: count such statements apart). THE CARD IS WHAT COUNTS. Prove the row's statement (the work); the ties are given (YtmhiddepddgfgaaDoorTie.lean); close each card by the builder's one call (the guide's Derived/Test/ToyasCard.lean, 'card_holds'). Laid BY PROGRAM, IN A SANDBOX (cutbox-door.mjs). By AI agents, Wed Nov 11 2026. No macro, syntax, notation, axiom, sorry.
-/
import Derived.Test.YtmhiddepddgfgaaDoorRows
import GoSem.ClaimSeven
namespace Go.Proofs.YtmhiddepddgfgaaDoor
namespace Rows

/-- THE TIED CARD OF 'laws.FnNegs'. -/
def fnNegsCard : Claim7 := { stood := { row := fnNegsRow, standIns := [], harness := (true, "a230535085f6faca366732d5e0008b08ab0c1500ee724e3c51feb90d07dbe12c"), looks := false }, kinds := [], alts := [], laidByText := true, laidKinds := [.data, .data, .data], laidTests := true, laidLooks := .later }
def FnNegsCardSaid : Prop := Claim7.holds Tryd.pinned (.plain (OpenSpec.ofChange fnNegsSpec)) fnNegsCard

/-- THE SECOND FORM's CARD OF 'laws.FnNegs'. -/
def fnNegsUptoCard : Claim7 := { stood := { row := fnNegsUptoRow, standIns := [], harness := (true, "a230535085f6faca366732d5e0008b08ab0c1500ee724e3c51feb90d07dbe12c"), looks := false }, kinds := [], alts := [], laidByText := true, laidKinds := [.data, .data, .data], laidTests := true, laidLooks := .later }
def FnNegsUptoCardSaid : Prop := Claim7.holds Tryd.pinned (.plain (OpenSpec.upto fnNegsSpec)) fnNegsUptoCard
end Rows
end Go.Proofs.YtmhiddepddgfgaaDoor
