/- For every list of bytes the law FnBinds returns true and its argument reads as before: the drawn chain without parentheses is read as the tree of the one with them, and a chain of two less-thans is refused. Condition: the listed variables of the library and of the program hold what their texts lay; the card ties them to that. -/
import Derived.Test.YtkkofminndboaaaGreatDoorSb27
import Derived.Test.YtkkofminndboaaaGreatDoorTie
import Derived.Test.YtkkofminndboaaaGreatDoorCards
import Derived.SevenTiedAt
namespace Go.Proofs.YtkkofminndboaaaGreatDoor
open Go
theorem holds : Rows.FnBindsCardSaid :=
  Claim7.holds_tied_plain_at .later [] [.data, .data, .data, .sentinel, .sentinel, .data, .data, .data] true (true, "479dbf2338665513e6fbcaf0025a79975e2cce54aa1c88b2141f4a1393beed5c") true
    row_holds (fun _ h => by cases h) (by kernel_rfl) (fun _ h => by cases h) fnBinds_row_tie rfl ⟨rfl, rfl⟩ (by kernel_rfl) rfl
    (fun f fn hf hfn => by
      obtain rfl : f = 3 := Option.some.inj ((show Tryz.prog.funcNamed "loop.example/g00070/laws.FnBinds" = some 3 by kernel_rfl).symm.trans hf) |>.symm
      obtain rfl : fn = Tryz.f3 := (Option.some.inj (Tryz.func3.symm.trans hfn)).symm
      exact ⟨by kernel_rfl, fun j t ht => by
        rw [Tryz.params3] at ht
        have hm : t ∈ [22] := by simpa using Array.mem_of_getElem? ht
        have hall : ([22].all fun u => !Tryz.prog.wantsStandIn u) = true := by kernel_rfl
        exact (show Tryz.prog.wantsStandIn t = false by simpa using List.all_eq_true.1 hall t hm)⟩)
    (by kernel_rfl)
#print axioms holds
end Go.Proofs.YtkkofminndboaaaGreatDoor
