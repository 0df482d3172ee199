/- For every Reg and every effect the law FnExactEffectOk returns true and its arguments read as before: the program's EffectOk answers as the specification's and writes into no argument. Condition: the listed table of the program (effSorts) holds what the program's text lays; the card ties it to that. -/
import Derived.Test.YtgcfhoojjgcpiaaDoorBo
import Derived.Test.YtgcfhoojjgcpiaaDoorTie
import Derived.Test.YtgcfhoojjgcpiaaDoorCards
import Derived.SevenTiedAt
namespace Go.Proofs.YtgcfhoojjgcpiaaDoor
open Go

theorem holds : Rows.FnExactEffectOkCardSaid :=
  Claim7.holds_tied_plain_at .later [] [.data] true (true, "827f5f4b205a4221bfb6e51600296f5d86f9fcc3a39d5a52dc85482389f724b7") false
    row_holds (fun _ h => by cases h) (by kernel_rfl) (fun _ h => by cases h) fnExactEffectOk_row_tie rfl ⟨rfl, rfl⟩ (by kernel_rfl) rfl
    (fun f fn hf hfn => by
      obtain rfl : f = 3 := Option.some.inj ((show Tryd.prog.funcNamed "loop.example/g00070/laws.FnExactEffectOk" = some 3 by kernel_rfl).symm.trans hf) |>.symm
      obtain rfl : fn = Tryd.f3 := (Option.some.inj (Tryd.func3.symm.trans hfn)).symm
      exact ⟨by kernel_rfl, fun j t ht => by
        rw [Tryd.params3] at ht
        have hm : t ∈ [24, 27] := by simpa using Array.mem_of_getElem? ht
        have hall : ([24, 27].all fun u => !Tryd.prog.wantsStandIn u) = true := by kernel_rfl
        exact (show Tryd.prog.wantsStandIn t = false by simpa using List.all_eq_true.1 hall t hm)⟩)
    (by kernel_rfl)
#print axioms holds
end Go.Proofs.YtgcfhoojjgcpiaaDoor
