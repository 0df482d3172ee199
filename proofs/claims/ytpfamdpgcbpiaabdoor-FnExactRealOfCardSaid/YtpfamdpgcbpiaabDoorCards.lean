/-
  DERIVED. GIVEN WITH THE SEED: THE CARDS: each row of YtpfamdpgcbpiaabDoorRows.lean that lists a variable, with what it lists TIED to the program's text (the seventh form; the later family's looks); each row that meets fmt, with fmt's text TOLD by the authors' own Lean function (tested against real Go, not proved from fmt's source: count such statements apart). THE CARD IS WHAT COUNTS. Prove the row's statement (the work); the ties are given (YtpfamdpgcbpiaabDoorTie.lean); close each card by the builder's one call (the guide's Derived/Test/ToyasCard.lean, 'card_holds'). Laid BY PROGRAM, IN A SANDBOX (cutbox-door.mjs). By AI agents, Wed Nov 11 2026. No macro, syntax, notation, axiom, sorry.
-/
import Derived.Test.YtpfamdpgcbpiaabDoorRows
import GoSem.ClaimSeven
namespace Go.Proofs.YtpfamdpgcbpiaabDoor
namespace Rows

/-- THE TIED CARD OF 'laws.FnExactRealOf'. -/
def fnExactRealOfCard : Claim7 := { stood := { row := fnExactRealOfRow, standIns := [], harness := (true, "2a04b7d6bcb76c8935f746a272b29d38b15d7689072db584e568714121b09d36"), looks := true }, kinds := [], alts := [], laidByText := true, laidKinds := [.data, .data, .data, .sentinel, .sentinel], laidTests := true, laidLooks := .later }
def FnExactRealOfCardSaid : Prop := Claim7.holds Tryd.pinned (.plain (OpenSpec.ofChange fnExactRealOfSpec)) fnExactRealOfCard

/-- THE TIED CARD OF 'laws.FnExactLex'. -/
def fnExactLexCard : Claim7 := { stood := { row := fnExactLexRow, standIns := [], harness := (true, "2a04b7d6bcb76c8935f746a272b29d38b15d7689072db584e568714121b09d36"), looks := true }, kinds := [], alts := [], laidByText := true, laidKinds := [.data, .data, .data, .sentinel, .sentinel], laidTests := true, laidLooks := .later }
def FnExactLexCardSaid : Prop := Claim7.holds Tryd.pinned (.plain (OpenSpec.ofChange fnExactLexSpec)) fnExactLexCard

/-- THE SECOND FORM's CARD OF 'laws.FnExactRealOf'. -/
def fnExactRealOfUptoCard : Claim7 := { stood := { row := fnExactRealOfUptoRow, standIns := [], harness := (true, "2a04b7d6bcb76c8935f746a272b29d38b15d7689072db584e568714121b09d36"), looks := true }, kinds := [], alts := [], laidByText := true, laidKinds := [.data, .data, .data, .sentinel, .sentinel], laidTests := true, laidLooks := .later }
def FnExactRealOfUptoCardSaid : Prop := Claim7.holds Tryd.pinned (.plain (OpenSpec.upto fnExactRealOfSpec)) fnExactRealOfUptoCard

/-- THE SECOND FORM's CARD OF 'laws.FnExactLex'. -/
def fnExactLexUptoCard : Claim7 := { stood := { row := fnExactLexUptoRow, standIns := [], harness := (true, "2a04b7d6bcb76c8935f746a272b29d38b15d7689072db584e568714121b09d36"), looks := true }, kinds := [], alts := [], laidByText := true, laidKinds := [.data, .data, .data, .sentinel, .sentinel], laidTests := true, laidLooks := .later }
def FnExactLexUptoCardSaid : Prop := Claim7.holds Tryd.pinned (.plain (OpenSpec.upto fnExactLexSpec)) fnExactLexUptoCard
end Rows
end Go.Proofs.YtpfamdpgcbpiaabDoor
