/-
  DERIVED. GIVEN WITH THE SEED: THE CARDS: each row of YtcllkmdlheggkaaDoorRows.lean that lists a variable, with what it lists TIED to the program's text (the seventh form; the later family's looks); each row that meets fmt, with fmt's text TOLD by the authors' own Lean function (tested against real Go, not proved from fmt's source: count such statements apart). THE CARD IS WHAT COUNTS. Prove the row's statement (the work); the ties are given (YtcllkmdlheggkaaDoorTie.lean); close each card by the builder's one call (the guide's Derived/Test/ToyasCard.lean, 'card_holds'). Laid BY PROGRAM, IN A SANDBOX (cutbox-door.mjs). By AI agents, Wed Nov 11 2026. No macro, syntax, notation, axiom, sorry.
-/
import Derived.Test.YtcllkmdlheggkaaDoorRows
import GoSem.ClaimSeven
namespace Go.Proofs.YtcllkmdlheggkaaDoor
namespace Rows

/-- THE TIED CARD OF 'laws.FnNegs'. -/
def fnNegsCard : Claim7 := { stood := { row := fnNegsRow, standIns := [], harness := (true, "10df04170fe2b01e269cc7059b0f6e062bc7d2f7b1fd499b7d92c0f164719d6f"), looks := false }, kinds := [], alts := [], laidByText := true, laidKinds := [.data, .data, .data], laidTests := true, laidLooks := .later }
def FnNegsCardSaid : Prop := Claim7.holds Tryd.pinned (.plain (OpenSpec.ofChange fnNegsSpec)) fnNegsCard

/-- THE TIED CARD OF 'laws.FnExactValText'. -/
def fnExactValTextCard : Claim7 := { stood := { row := fnExactValTextRow, standIns := [], harness := (true, "10df04170fe2b01e269cc7059b0f6e062bc7d2f7b1fd499b7d92c0f164719d6f"), looks := false }, kinds := [], alts := [], laidByText := true, laidKinds := [.data, .data, .data], laidTests := true, laidLooks := .later }
def FnExactValTextCardSaid : Prop := Claim7.holds Tryd.pinned (.plain (OpenSpec.ofChange fnExactValTextSpec)) fnExactValTextCard

/-- THE SECOND FORM's CARD OF 'laws.FnNegs'. -/
def fnNegsUptoCard : Claim7 := { stood := { row := fnNegsUptoRow, standIns := [], harness := (true, "10df04170fe2b01e269cc7059b0f6e062bc7d2f7b1fd499b7d92c0f164719d6f"), looks := false }, kinds := [], alts := [], laidByText := true, laidKinds := [.data, .data, .data], laidTests := true, laidLooks := .later }
def FnNegsUptoCardSaid : Prop := Claim7.holds Tryd.pinned (.plain (OpenSpec.upto fnNegsSpec)) fnNegsUptoCard

/-- THE SECOND FORM's CARD OF 'laws.FnExactValText'. -/
def fnExactValTextUptoCard : Claim7 := { stood := { row := fnExactValTextUptoRow, standIns := [], harness := (true, "10df04170fe2b01e269cc7059b0f6e062bc7d2f7b1fd499b7d92c0f164719d6f"), looks := false }, kinds := [], alts := [], laidByText := true, laidKinds := [.data, .data, .data], laidTests := true, laidLooks := .later }
def FnExactValTextUptoCardSaid : Prop := Claim7.holds Tryd.pinned (.plain (OpenSpec.upto fnExactValTextSpec)) fnExactValTextUptoCard
end Rows
end Go.Proofs.YtcllkmdlheggkaaDoor
