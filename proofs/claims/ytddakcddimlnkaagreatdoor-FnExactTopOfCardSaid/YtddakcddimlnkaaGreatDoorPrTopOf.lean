/- For every tree and text the law FnExactTopOf returns true and its arguments read as before: the program's TopOf answers as the specification's. Condition: the seven listed variables of the library hold what the program's text lays; the card ties them to it. -/
import Derived.Test.YtddakcddimlnkaaGreatDoorOr
import Derived.Test.YtddakcddimlnkaaGreatDoorTie
import Derived.Test.YtddakcddimlnkaaGreatDoorCards
import Derived.SevenTiedAt
namespace Go.Proofs.YtddakcddimlnkaaGreatDoor
open Go

theorem holds : Rows.FnExactTopOfCardSaid :=
  Claim7.holds_tied_plain_at .later [] [.data, .data, .data, .data, .sentinel, .sentinel, .pinned] true (true, "0318342c5ef52ad831e8c16716a347d9bbdac0617ac59f953de46ab73ed9e867") true
    row_holds (fun _ h => by cases h) (by kernel_rfl) (fun _ h => by cases h) fnExactTopOf_row_tie rfl ⟨rfl, rfl⟩ (by kernel_rfl) rfl
    (fun f fn hf hfn => by
      obtain rfl : f = 4 := Option.some.inj ((show Tryz.prog.funcNamed "loop.example/g00070/laws.FnExactTopOf" = some 4 by kernel_rfl).symm.trans hf) |>.symm
      obtain rfl : fn = Tryz.f4 := (Option.some.inj (Tryz.func4.symm.trans hfn)).symm
      exact ⟨by kernel_rfl, fun j t ht => by
        rw [Tryz.params4] at ht
        have hm : t ∈ [25, 9] := by simpa using Array.mem_of_getElem? ht
        have hall : ([25, 9].all fun u => !Tryz.prog.wantsStandIn u) = true := by kernel_rfl
        exact (show Tryz.prog.wantsStandIn t = false by simpa using List.all_eq_true.1 hall t hm)⟩)
    (by kernel_rfl)
#print axioms holds
end Go.Proofs.YtddakcddimlnkaaGreatDoor
