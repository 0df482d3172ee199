/- For every code the law FnReduced returns true and its argument reads as before: of a drawn graph the reduced edges allow just as many orders as all edges, lead from and to the same, and reduced once more are themselves. Condition: the one listed table of the library holds what the program's text lays; the card ties it to it. -/
import Derived.Test.YtbgeobpdojmdaaaDoorG72
import Derived.Test.YtbgeobpdojmdaaaDoorTie
import Derived.Test.YtbgeobpdojmdaaaDoorCards
import Derived.SevenTiedAt
namespace Go.Proofs.YtbgeobpdojmdaaaDoor
open Go

theorem holds : Rows.FnReducedCardSaid :=
  Claim7.holds_tied_plain_at .later [] [.data] true (true, "56a3d3a755120873093e35e0e97bfed3daf02c0ac6c5f6474a433d007172274a") false
    row_holds (fun _ h => by cases h) (by kernel_rfl) (fun _ h => by cases h) fnReduced_row_tie rfl ⟨rfl, rfl⟩ (by kernel_rfl) rfl
    (fun f fn hf hfn => by
      obtain rfl : f = 3 := Option.some.inj ((show Tryd.prog.funcNamed "loop.example/g00070/laws.FnReduced" = some 3 by kernel_rfl).symm.trans hf) |>.symm
      obtain rfl : fn = Tryd.f3 := (Option.some.inj (Tryd.func3.symm.trans hfn)).symm
      exact ⟨by kernel_rfl, fun j t ht => by
        rw [Tryd.params3] at ht
        have hm : t ∈ [22] := by simpa using Array.mem_of_getElem? ht
        have hall : ([22].all fun u => !Tryd.prog.wantsStandIn u) = true := by kernel_rfl
        exact (show Tryd.prog.wantsStandIn t = false by simpa using List.all_eq_true.1 hall t hm)⟩)
    (by kernel_rfl)
#print axioms holds
end Go.Proofs.YtbgeobpdojmdaaaDoor
