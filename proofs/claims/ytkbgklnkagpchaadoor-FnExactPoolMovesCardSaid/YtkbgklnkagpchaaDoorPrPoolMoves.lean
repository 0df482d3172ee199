/- For every number, list of edges, number of workers and list of moves the law FnExactPoolMoves returns true and its arguments read as before: the moves that the program tells are the specification's, and its answer owns its memory. Condition: the one listed table of the library holds what the program's text lays; the card ties it to it. -/
import Derived.Test.YtkbgklnkagpchaaDoorN18
import Derived.Test.YtkbgklnkagpchaaDoorTie
import Derived.Test.YtkbgklnkagpchaaDoorCards
import Derived.SevenTiedAt
namespace Go.Proofs.YtkbgklnkagpchaaDoor
open Go

theorem holds : Rows.FnExactPoolMovesCardSaid :=
  Claim7.holds_tied_plain_at .later [] [.data] true (true, "c531b1ff2b8c160502c978ff2f48b3e2eb96c5b611ee3b85cd09f083bd3ee5fa") false
    row_holds (fun _ h => by cases h) (by kernel_rfl) (fun _ h => by cases h) fnExactPoolMoves_row_tie rfl ⟨rfl, rfl⟩ (by kernel_rfl) rfl
    (fun f fn hf hfn => by
      obtain rfl : f = 3 := Option.some.inj ((show Tryd.prog.funcNamed "loop.example/g00070/laws.FnExactPoolMoves" = some 3 by kernel_rfl).symm.trans hf) |>.symm
      obtain rfl : fn = Tryd.f3 := (Option.some.inj (Tryd.func3.symm.trans hfn)).symm
      exact ⟨by kernel_rfl, fun j t ht => by
        rw [Tryd.params3] at ht
        have hm : t ∈ [3, 22, 3, 23] := by simpa using Array.mem_of_getElem? ht
        have hall : ([3, 22, 3, 23].all fun u => !Tryd.prog.wantsStandIn u) = true := by kernel_rfl
        exact (show Tryd.prog.wantsStandIn t = false by simpa using List.all_eq_true.1 hall t hm)⟩)
    (by kernel_rfl)
#print axioms holds
end Go.Proofs.YtkbgklnkagpchaaDoor
