/- For every number and every list of edges the law FnExactCircle returns true and its arguments read as before: the program's circle is the specification's, and its answer owns its memory. Condition: the one listed table of the library holds what the program's text lays; the card ties it to it. -/
import Derived.Test.YtnbckfeclfbafaaDoorG57
import Derived.Test.YtnbckfeclfbafaaDoorTie
import Derived.Test.YtnbckfeclfbafaaDoorCards
import Derived.SevenTiedAt
namespace Go.Proofs.YtnbckfeclfbafaaDoor
open Go

theorem holds : Rows.FnExactCircleCardSaid :=
  Claim7.holds_tied_plain_at .later [] [.data] true (true, "0b8ed7ba5f31b42150a8e82bbcc90076122bef671e8a31a865b5f6b856473336") false
    row_holds (fun _ h => by cases h) (by kernel_rfl) (fun _ h => by cases h) fnExactCircle_row_tie rfl ⟨rfl, rfl⟩ (by kernel_rfl) rfl
    (fun f fn hf hfn => by
      obtain rfl : f = 4 := Option.some.inj ((show Tryd.prog.funcNamed "loop.example/g00070/laws.FnExactCircle" = some 4 by kernel_rfl).symm.trans hf) |>.symm
      obtain rfl : fn = Tryd.f4 := (Option.some.inj (Tryd.func4.symm.trans hfn)).symm
      exact ⟨by kernel_rfl, fun j t ht => by
        rw [Tryd.params4] at ht
        have hm : t ∈ [3, 22] := by simpa using Array.mem_of_getElem? ht
        have hall : ([3, 22].all fun u => !Tryd.prog.wantsStandIn u) = true := by kernel_rfl
        exact (show Tryd.prog.wantsStandIn t = false by simpa using List.all_eq_true.1 hall t hm)⟩)
    (by kernel_rfl)
#print axioms holds
end Go.Proofs.YtnbckfeclfbafaaDoor
