/-
  DERIVED. GIVEN WITH THE SEED: THE CARDS: each row of YtkkofminndboaaaGreatDoorRows.lean that lists a variable, with what it lists TIED to the program's text (the seventh form; the later family's looks); each row that meets fmt, with fmt's text TOLD by the authors' own Lean function (tested against real Go, not proved from fmt's source: count such statements apart). THE CARD IS WHAT COUNTS. Prove the row's statement (the work); the ties are given (YtkkofminndboaaaGreatDoorTie.lean); close each card by the builder's one call (the guide's Derived/Test/ToyasCard.lean, 'card_holds'). Laid BY PROGRAM, IN A SANDBOX (cutbox-door.mjs). By AI agents, Wed Nov 11 2026. No macro, syntax, notation, axiom, sorry.
-/
import Derived.Test.YtkkofminndboaaaGreatDoorRows
import GoSem.ClaimSeven
namespace Go.Proofs.YtkkofminndboaaaGreatDoor
namespace Rows

/-- THE TIED CARD OF 'laws.FnBinds'. -/
def fnBindsCard : Claim7 := { stood := { row := fnBindsRow, standIns := [], harness := (true, "479dbf2338665513e6fbcaf0025a79975e2cce54aa1c88b2141f4a1393beed5c"), looks := true }, kinds := [], alts := [], laidByText := true, laidKinds := [.data, .data, .data, .sentinel, .sentinel, .data, .data, .data], laidTests := true, laidLooks := .later }
def FnBindsCardSaid : Prop := Claim7.holds Tryz.pinned (.plain (OpenSpec.ofChange fnBindsSpec)) fnBindsCard

/-- THE SECOND FORM's CARD OF 'laws.FnBinds'. -/
def fnBindsUptoCard : Claim7 := { stood := { row := fnBindsUptoRow, standIns := [], harness := (true, "479dbf2338665513e6fbcaf0025a79975e2cce54aa1c88b2141f4a1393beed5c"), looks := true }, kinds := [], alts := [], laidByText := true, laidKinds := [.data, .data, .data, .sentinel, .sentinel, .data, .data, .data], laidTests := true, laidLooks := .later }
def FnBindsUptoCardSaid : Prop := Claim7.holds Tryz.pinned (.plain (OpenSpec.upto fnBindsSpec)) fnBindsUptoCard
end Rows
end Go.Proofs.YtkkofminndboaaaGreatDoor
