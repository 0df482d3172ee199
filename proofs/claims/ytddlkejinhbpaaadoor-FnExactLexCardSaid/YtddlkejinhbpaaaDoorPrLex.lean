/- For every text the law FnExactLex returns true and its argument reads as before: the program's Lex answers as the specification's, field by field, and its answer owns its memory. Condition: the five listed variables of the library hold what the program's text lays; the card ties them to it. -/
import Derived.Test.YtddlkejinhbpaaaDoorXr
import Derived.Test.YtddlkejinhbpaaaDoorTie
import Derived.Test.YtddlkejinhbpaaaDoorCards
import Derived.SevenTiedAt
namespace Go.Proofs.YtddlkejinhbpaaaDoor
open Go

theorem holds : Rows.FnExactLexCardSaid :=
  Claim7.holds_tied_plain_at .later [] [.data, .data, .data, .sentinel, .sentinel] true (true, "f7ffbe14e637c5827ef7b3f9a86a50f38452882705d4f34c1ec1b34e3fb7778f") true
    row_holds (fun _ h => by cases h) (by kernel_rfl) (fun _ h => by cases h) fnExactLex_row_tie rfl ⟨rfl, rfl⟩ (by kernel_rfl) rfl
    (fun f fn hf hfn => by
      obtain rfl : f = 3 := Option.some.inj ((show Tryd.prog.funcNamed "loop.example/g00070/laws.FnExactLex" = some 3 by kernel_rfl).symm.trans hf) |>.symm
      obtain rfl : fn = Tryd.f3 := (Option.some.inj (Tryd.func3.symm.trans hfn)).symm
      exact ⟨by kernel_rfl, fun j t ht => by
        rw [Tryd.params3] at ht
        have hm : t ∈ [9] := by simpa using Array.mem_of_getElem? ht
        have hall : ([9].all fun u => !Tryd.prog.wantsStandIn u) = true := by kernel_rfl
        exact (show Tryd.prog.wantsStandIn t = false by simpa using List.all_eq_true.1 hall t hm)⟩)
    (by kernel_rfl)
#print axioms holds
end Go.Proofs.YtddlkejinhbpaaaDoor
