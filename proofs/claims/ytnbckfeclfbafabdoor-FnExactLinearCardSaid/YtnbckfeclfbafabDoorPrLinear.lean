/- For every number, every list of edges and every number k the law FnExactLinear returns true and its arguments read as before: the program's order with the number k is the specification's, and its answer owns its memory. Condition: the one listed table of the library holds what the program's text lays; the card ties it to it. -/
import Derived.Test.YtnbckfeclfbafabDoorG38
import Derived.Test.YtnbckfeclfbafabDoorTie
import Derived.Test.YtnbckfeclfbafabDoorCards
import Derived.SevenTiedAt
namespace Go.Proofs.YtnbckfeclfbafabDoor
open Go

theorem holds : Rows.FnExactLinearCardSaid :=
  Claim7.holds_tied_plain_at .later [] [.data] true (true, "1571775dc1208c67b422c0d9d69277d9be5eb649db2be4d360e7eb687c08b526") false
    row_holds (fun _ h => by cases h) (by kernel_rfl) (fun _ h => by cases h) fnExactLinear_row_tie rfl ⟨rfl, rfl⟩ (by kernel_rfl) rfl
    (fun f fn hf hfn => by
      obtain rfl : f = 3 := Option.some.inj ((show Tryd.prog.funcNamed "loop.example/g00070/laws.FnExactLinear" = some 3 by kernel_rfl).symm.trans hf) |>.symm
      obtain rfl : fn = Tryd.f3 := (Option.some.inj (Tryd.func3.symm.trans hfn)).symm
      exact ⟨by kernel_rfl, fun j t ht => by
        rw [Tryd.params3] at ht
        have hm : t ∈ [3, 22, 3] := by simpa using Array.mem_of_getElem? ht
        have hall : ([3, 22, 3].all fun u => !Tryd.prog.wantsStandIn u) = true := by kernel_rfl
        exact (show Tryd.prog.wantsStandIn t = false by simpa using List.all_eq_true.1 hall t hm)⟩)
    (by kernel_rfl)
#print axioms holds
end Go.Proofs.YtnbckfeclfbafabDoor
