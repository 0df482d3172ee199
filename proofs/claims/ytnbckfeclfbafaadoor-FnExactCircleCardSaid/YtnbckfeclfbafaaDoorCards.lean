/-
  DERIVED. GIVEN WITH THE SEED: THE CARDS: each row of YtnbckfeclfbafaaDoorRows.lean that lists a variable, with what it lists TIED to the program's text (the seventh form; the later family's looks); each row that meets fmt, with fmt's text TOLD by the authors' own Lean function (tested against real Go, not proved from fmt's source: count such statements apart). THE CARD IS WHAT COUNTS. Prove the row's statement (the work); the ties are given (YtnbckfeclfbafaaDoorTie.lean); close each card by the builder's one call (the guide's Derived/Test/ToyasCard.lean, 'card_holds'). Laid BY PROGRAM, IN A SANDBOX (cutbox-door.mjs). By AI agents, Wed Nov 11 2026. No macro, syntax, notation, axiom, sorry.
-/
import Derived.Test.YtnbckfeclfbafaaDoorRows
import GoSem.ClaimSeven
namespace Go.Proofs.YtnbckfeclfbafaaDoor
namespace Rows

/-- THE TIED CARD OF 'laws.FnExactCanon'. -/
def fnExactCanonCard : Claim7 := { stood := { row := fnExactCanonRow, standIns := [], harness := (true, "0b8ed7ba5f31b42150a8e82bbcc90076122bef671e8a31a865b5f6b856473336"), looks := false }, kinds := [], alts := [], laidByText := true, laidKinds := [.data], laidTests := true, laidLooks := .later }
def FnExactCanonCardSaid : Prop := Claim7.holds Tryd.pinned (.plain (OpenSpec.ofChange fnExactCanonSpec)) fnExactCanonCard

/-- THE TIED CARD OF 'laws.FnExactCircle'. -/
def fnExactCircleCard : Claim7 := { stood := { row := fnExactCircleRow, standIns := [], harness := (true, "0b8ed7ba5f31b42150a8e82bbcc90076122bef671e8a31a865b5f6b856473336"), looks := false }, kinds := [], alts := [], laidByText := true, laidKinds := [.data], laidTests := true, laidLooks := .later }
def FnExactCircleCardSaid : Prop := Claim7.holds Tryd.pinned (.plain (OpenSpec.ofChange fnExactCircleSpec)) fnExactCircleCard

/-- THE TIED CARD OF 'laws.FnExactReduced'. -/
def fnExactReducedCard : Claim7 := { stood := { row := fnExactReducedRow, standIns := [], harness := (true, "0b8ed7ba5f31b42150a8e82bbcc90076122bef671e8a31a865b5f6b856473336"), looks := false }, kinds := [], alts := [], laidByText := true, laidKinds := [.data], laidTests := true, laidLooks := .later }
def FnExactReducedCardSaid : Prop := Claim7.holds Tryd.pinned (.plain (OpenSpec.ofChange fnExactReducedSpec)) fnExactReducedCard

/-- THE SECOND FORM's CARD OF 'laws.FnExactCanon'. -/
def fnExactCanonUptoCard : Claim7 := { stood := { row := fnExactCanonUptoRow, standIns := [], harness := (true, "0b8ed7ba5f31b42150a8e82bbcc90076122bef671e8a31a865b5f6b856473336"), looks := false }, kinds := [], alts := [], laidByText := true, laidKinds := [.data], laidTests := true, laidLooks := .later }
def FnExactCanonUptoCardSaid : Prop := Claim7.holds Tryd.pinned (.plain (OpenSpec.upto fnExactCanonSpec)) fnExactCanonUptoCard

/-- THE SECOND FORM's CARD OF 'laws.FnExactCircle'. -/
def fnExactCircleUptoCard : Claim7 := { stood := { row := fnExactCircleUptoRow, standIns := [], harness := (true, "0b8ed7ba5f31b42150a8e82bbcc90076122bef671e8a31a865b5f6b856473336"), looks := false }, kinds := [], alts := [], laidByText := true, laidKinds := [.data], laidTests := true, laidLooks := .later }
def FnExactCircleUptoCardSaid : Prop := Claim7.holds Tryd.pinned (.plain (OpenSpec.upto fnExactCircleSpec)) fnExactCircleUptoCard

/-- THE SECOND FORM's CARD OF 'laws.FnExactReduced'. -/
def fnExactReducedUptoCard : Claim7 := { stood := { row := fnExactReducedUptoRow, standIns := [], harness := (true, "0b8ed7ba5f31b42150a8e82bbcc90076122bef671e8a31a865b5f6b856473336"), looks := false }, kinds := [], alts := [], laidByText := true, laidKinds := [.data], laidTests := true, laidLooks := .later }
def FnExactReducedUptoCardSaid : Prop := Claim7.holds Tryd.pinned (.plain (OpenSpec.upto fnExactReducedSpec)) fnExactReducedUptoCard
end Rows
end Go.Proofs.YtnbckfeclfbafaaDoor
