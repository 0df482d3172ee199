import Derived.Test.YtknallkcengbbaaGreatDoorEd
import Derived.Test.YtknallkcengbbaaGreatDoorEf
namespace Go.Proofs.YtknallkcengbbaaGreatDoor
open Go.RowKit
set_option linter.unusedVariables false

theorem Rows2.ints {w : World} {B g f : Nat} {G F : List Int} (h : Rows2 w B g f G F) : Ints w (some ⟨g, 0, none⟩) G ∧ Ints w (some ⟨f, 0, none⟩) F := ⟨h.1.ints.1, h.2.1.ints.1⟩

end Go.Proofs.YtknallkcengbbaaGreatDoor
