/- For every tree the law FnExactFold returns true and its argument reads as before: the program's Fold answers as the specification's, node by node, and its answer owns its memory. Condition: the seven listed variables of the library hold what the program's text lays; the card ties them to it. -/
import Derived.Test.YtknallkcengbbaaGreatDoorDC
import Derived.Test.YtknallkcengbbaaGreatDoorTie
import Derived.Test.YtknallkcengbbaaGreatDoorCards
import Derived.SevenTiedAt
namespace Go.Proofs.YtknallkcengbbaaGreatDoor
open Go

theorem holds : Rows.FnExactFoldCardSaid :=
  Claim7.holds_tied_plain_at .later [] [.data, .data, .data, .data, .sentinel, .sentinel, .pinned] true (true, "8c35b1e561bb188277f22bc1c6910a0621c7e9e52378d1f8c01ffd513340783a") true
    row_holds (fun _ h => by cases h) (by kernel_rfl) (fun _ h => by cases h) fnExactFold_row_tie rfl ⟨rfl, rfl⟩ (by kernel_rfl) rfl
    (fun f fn hf hfn => by
      obtain rfl : f = 3 := Option.some.inj ((show Tryz.prog.funcNamed "loop.example/g00070/laws.FnExactFold" = some 3 by kernel_rfl).symm.trans hf) |>.symm
      obtain rfl : fn = Tryz.f3 := (Option.some.inj (Tryz.func3.symm.trans hfn)).symm
      exact ⟨by kernel_rfl, fun j t ht => by
        rw [Tryz.params3] at ht
        have hm : t ∈ [25] := by simpa using Array.mem_of_getElem? ht
        have hall : ([25].all fun u => !Tryz.prog.wantsStandIn u) = true := by kernel_rfl
        exact (show Tryz.prog.wantsStandIn t = false by simpa using List.all_eq_true.1 hall t hm)⟩)
    (by kernel_rfl)
#print axioms holds
end Go.Proofs.YtknallkcengbbaaGreatDoor
