/- For every code the law FnMoves returns true and its argument reads as before: each move of a drawn run is one of those that the program tells behind the moves ahead of it, and behind the last one it tells none; where the model refuses the run, the program refuses as the model does. Condition: the one listed table of the library holds what the program's text lays; the card ties it to it. -/
import Derived.Test.YtedobocaagdjfaaDoorN25
import Derived.Test.YtedobocaagdjfaaDoorTie
import Derived.Test.YtedobocaagdjfaaDoorCards
import Derived.SevenTiedAt
namespace Go.Proofs.YtedobocaagdjfaaDoor
open Go

theorem holds : Rows.FnMovesCardSaid :=
  Claim7.holds_tied_plain_at .later [] [.data] true (true, "42ef73d7dc31db85e9032cc95546a4c6beb1fd13e3b707af875e759f1f3c006d") false
    row_holds (fun _ h => by cases h) (by kernel_rfl) (fun _ h => by cases h) fnMoves_row_tie rfl ⟨rfl, rfl⟩ (by kernel_rfl) rfl
    (fun f fn hf hfn => by
      obtain rfl : f = 3 := Option.some.inj ((show Tryd.prog.funcNamed "loop.example/g00070/laws.FnMoves" = some 3 by kernel_rfl).symm.trans hf) |>.symm
      obtain rfl : fn = Tryd.f3 := (Option.some.inj (Tryd.func3.symm.trans hfn)).symm
      exact ⟨by kernel_rfl, fun j t ht => by
        rw [Tryd.params3] at ht
        have hm : t ∈ [22] := by simpa using Array.mem_of_getElem? ht
        have hall : ([22].all fun u => !Tryd.prog.wantsStandIn u) = true := by kernel_rfl
        exact (show Tryd.prog.wantsStandIn t = false by simpa using List.all_eq_true.1 hall t hm)⟩)
    (by kernel_rfl)
#print axioms holds
end Go.Proofs.YtedobocaagdjfaaDoor
