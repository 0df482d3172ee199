/- For every number, list of edges, number of workers and two numbers the law FnExactMeet returns true and its arguments read as before: the moves that the program tells are the specification's, and its answer owns its memory. Condition: the one listed table of the library holds what the program's text lays; the card ties it to it. -/
import Derived.Test.YtmoohgafljepdaaDoorN47
import Derived.Test.YtmoohgafljepdaaDoorTie
import Derived.Test.YtmoohgafljepdaaDoorCards
import Derived.SevenTiedAt
namespace Go.Proofs.YtmoohgafljepdaaDoor
open Go

theorem holds : Rows.FnExactMeetCardSaid :=
  Claim7.holds_tied_plain_at .later [] [.data] true (true, "88fd0712133a05ae85747a1bb3042e536f6ecc6d872ea708eac06c0135be3bbc") false
    row_holds (fun _ h => by cases h) (by kernel_rfl) (fun _ h => by cases h) fnExactMeet_row_tie rfl ⟨rfl, rfl⟩ (by kernel_rfl) rfl
    (fun f fn hf hfn => by
      obtain rfl : f = 3 := Option.some.inj ((show Tryd.prog.funcNamed "loop.example/g00070/laws.FnExactMeet" = some 3 by kernel_rfl).symm.trans hf) |>.symm
      obtain rfl : fn = Tryd.f3 := (Option.some.inj (Tryd.func3.symm.trans hfn)).symm
      exact ⟨by kernel_rfl, fun j t ht => by
        rw [Tryd.params3] at ht
        have hm : t ∈ [3, 22, 3, 3, 3] := by simpa using Array.mem_of_getElem? ht
        have hall : ([3, 22, 3, 3, 3].all fun u => !Tryd.prog.wantsStandIn u) = true := by kernel_rfl
        exact (show Tryd.prog.wantsStandIn t = false by simpa using List.all_eq_true.1 hall t hm)⟩)
    (by kernel_rfl)
#print axioms holds
end Go.Proofs.YtmoohgafljepdaaDoor
