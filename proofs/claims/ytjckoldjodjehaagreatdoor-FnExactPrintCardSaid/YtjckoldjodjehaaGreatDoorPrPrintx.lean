/- For every tree the law FnExactPrint returns true and its argument reads as before: the program's Print answers the text and the yes that the specification's Print answers. Condition: the ten listed variables (three tables of the program's own texts among them) hold what the program's text lays; the card ties them to it. -/
import Derived.Test.YtjckoldjodjehaaGreatDoorSe15
import Derived.Test.YtjckoldjodjehaaGreatDoorTie
import Derived.Test.YtjckoldjodjehaaGreatDoorCards
import Derived.SevenTiedAt
namespace Go.Proofs.YtjckoldjodjehaaGreatDoor
open Go
theorem holds : Rows.FnExactPrintCardSaid :=
  Claim7.holds_tied_plain_at .later [] [.data, .data, .data, .data, .sentinel, .sentinel, .data, .data, .data, .pinned] true (true, "9bea2ad471c702956c8ddf8bb5276857a6a3920191a08f382c7aa84329c91951") true
    row_holds (fun _ h => by cases h) (by kernel_rfl) (fun _ h => by cases h) fnExactPrint_row_tie rfl ⟨rfl, rfl⟩ (by kernel_rfl) rfl
    (fun f fn hf hfn => by
      obtain rfl : f = 3 := Option.some.inj ((show Tryz.prog.funcNamed "loop.example/g00070/laws.FnExactPrint" = some 3 by kernel_rfl).symm.trans hf) |>.symm
      obtain rfl : fn = Tryz.f3 := (Option.some.inj (Tryz.func3.symm.trans hfn)).symm
      exact ⟨by kernel_rfl, fun j t ht => by
        rw [Tryz.params3] at ht
        have hm : t ∈ [25] := by simpa using Array.mem_of_getElem? ht
        have hall : ([25].all fun u => !Tryz.prog.wantsStandIn u) = true := by kernel_rfl
        exact (show Tryz.prog.wantsStandIn t = false by simpa using List.all_eq_true.1 hall t hm)⟩)
    (by kernel_rfl)
#print axioms holds
end Go.Proofs.YtjckoldjodjehaaGreatDoor
