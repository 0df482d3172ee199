/-
  DERIVED. GIVEN WITH THE SEED: THE CARDS: each row of YtpgcianhppihiaaDoorRows.lean that lists a variable, with what it lists TIED to the program's text (the seventh form; the later family's looks); each row that meets fmt, with fmt's text TOLD by the authors' own Lean function (tested against real Go, not proved from fmt's source: count such statements apart). THE CARD IS WHAT COUNTS. Prove the row's statement (the work); the ties are given (YtpgcianhppihiaaDoorTie.lean); close each card by the builder's one call (the guide's Derived/Test/ToyasCard.lean, 'card_holds'). Laid BY PROGRAM, IN A SANDBOX (cutbox-door.mjs). By AI agents, Wed Nov 11 2026. No macro, syntax, notation, axiom, sorry.
-/
import Derived.Test.YtpgcianhppihiaaDoorRows
import GoSem.ClaimSeven
namespace Go.Proofs.YtpgcianhppihiaaDoor
namespace Rows

/-- THE TIED CARD OF 'laws.FnCanonFirst'. -/
def fnCanonFirstCard : Claim7 := { stood := { row := fnCanonFirstRow, standIns := [], harness := (true, "80032483dbc59169f164bba2903de126aa1f5ee4c26f880b35f2f31f580e10de"), looks := false }, kinds := [], alts := [], laidByText := true, laidKinds := [.data], laidTests := true, laidLooks := .later }
def FnCanonFirstCardSaid : Prop := Claim7.holds Tryd.pinned (.plain (OpenSpec.ofChange fnCanonFirstSpec)) fnCanonFirstCard

/-- THE TIED CARD OF 'laws.FnCircle'. -/
def fnCircleCard : Claim7 := { stood := { row := fnCircleRow, standIns := [], harness := (true, "80032483dbc59169f164bba2903de126aa1f5ee4c26f880b35f2f31f580e10de"), looks := false }, kinds := [], alts := [], laidByText := true, laidKinds := [.data], laidTests := true, laidLooks := .later }
def FnCircleCardSaid : Prop := Claim7.holds Tryd.pinned (.plain (OpenSpec.ofChange fnCircleSpec)) fnCircleCard

/-- THE TIED CARD OF 'laws.FnReduced'. -/
def fnReducedCard : Claim7 := { stood := { row := fnReducedRow, standIns := [], harness := (true, "80032483dbc59169f164bba2903de126aa1f5ee4c26f880b35f2f31f580e10de"), looks := false }, kinds := [], alts := [], laidByText := true, laidKinds := [.data], laidTests := true, laidLooks := .later }
def FnReducedCardSaid : Prop := Claim7.holds Tryd.pinned (.plain (OpenSpec.ofChange fnReducedSpec)) fnReducedCard

/-- THE TIED CARD OF 'laws.FnLinears'. -/
def fnLinearsCard : Claim7 := { stood := { row := fnLinearsRow, standIns := [], harness := (true, "80032483dbc59169f164bba2903de126aa1f5ee4c26f880b35f2f31f580e10de"), looks := false }, kinds := [], alts := [], laidByText := true, laidKinds := [.data], laidTests := true, laidLooks := .later }
def FnLinearsCardSaid : Prop := Claim7.holds Tryd.pinned (.plain (OpenSpec.ofChange fnLinearsSpec)) fnLinearsCard

/-- THE SECOND FORM's CARD OF 'laws.FnCanonFirst'. -/
def fnCanonFirstUptoCard : Claim7 := { stood := { row := fnCanonFirstUptoRow, standIns := [], harness := (true, "80032483dbc59169f164bba2903de126aa1f5ee4c26f880b35f2f31f580e10de"), looks := false }, kinds := [], alts := [], laidByText := true, laidKinds := [.data], laidTests := true, laidLooks := .later }
def FnCanonFirstUptoCardSaid : Prop := Claim7.holds Tryd.pinned (.plain (OpenSpec.upto fnCanonFirstSpec)) fnCanonFirstUptoCard

/-- THE SECOND FORM's CARD OF 'laws.FnCircle'. -/
def fnCircleUptoCard : Claim7 := { stood := { row := fnCircleUptoRow, standIns := [], harness := (true, "80032483dbc59169f164bba2903de126aa1f5ee4c26f880b35f2f31f580e10de"), looks := false }, kinds := [], alts := [], laidByText := true, laidKinds := [.data], laidTests := true, laidLooks := .later }
def FnCircleUptoCardSaid : Prop := Claim7.holds Tryd.pinned (.plain (OpenSpec.upto fnCircleSpec)) fnCircleUptoCard

/-- THE SECOND FORM's CARD OF 'laws.FnReduced'. -/
def fnReducedUptoCard : Claim7 := { stood := { row := fnReducedUptoRow, standIns := [], harness := (true, "80032483dbc59169f164bba2903de126aa1f5ee4c26f880b35f2f31f580e10de"), looks := false }, kinds := [], alts := [], laidByText := true, laidKinds := [.data], laidTests := true, laidLooks := .later }
def FnReducedUptoCardSaid : Prop := Claim7.holds Tryd.pinned (.plain (OpenSpec.upto fnReducedSpec)) fnReducedUptoCard

/-- THE SECOND FORM's CARD OF 'laws.FnLinears'. -/
def fnLinearsUptoCard : Claim7 := { stood := { row := fnLinearsUptoRow, standIns := [], harness := (true, "80032483dbc59169f164bba2903de126aa1f5ee4c26f880b35f2f31f580e10de"), looks := false }, kinds := [], alts := [], laidByText := true, laidKinds := [.data], laidTests := true, laidLooks := .later }
def FnLinearsUptoCardSaid : Prop := Claim7.holds Tryd.pinned (.plain (OpenSpec.upto fnLinearsSpec)) fnLinearsUptoCard
end Rows
end Go.Proofs.YtpgcianhppihiaaDoor
