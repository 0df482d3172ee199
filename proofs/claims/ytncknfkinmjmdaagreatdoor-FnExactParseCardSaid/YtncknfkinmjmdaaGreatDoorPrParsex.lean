/- For every text the law FnExactParse returns true and its argument reads as before: the program's Parse answers as the specification's, field by field, and its answer owns its memory. Condition: the eight listed variables of the library and of the program hold what their texts lay; the card ties them to that. -/
import Derived.Test.YtncknfkinmjmdaaGreatDoorSp46
import Derived.Test.YtncknfkinmjmdaaGreatDoorTie
import Derived.Test.YtncknfkinmjmdaaGreatDoorCards
import Derived.SevenTiedAt
namespace Go.Proofs.YtncknfkinmjmdaaGreatDoor
open Go
theorem holds : Rows.FnExactParseCardSaid :=
  Claim7.holds_tied_plain_at .later [] [.data, .data, .data, .sentinel, .sentinel, .data, .data, .data] true (true, "f063966305cb8b081a9a3d6774c5deab4f44375de3eafa9b2b450d0a4a313389") true
    row_holds (fun _ h => by cases h) (by kernel_rfl) (fun _ h => by cases h) fnExactParse_row_tie rfl ⟨rfl, rfl⟩ (by kernel_rfl) rfl
    (fun f fn hf hfn => by
      obtain rfl : f = 3 := Option.some.inj ((show Tryz.prog.funcNamed "loop.example/g00070/laws.FnExactParse" = some 3 by kernel_rfl).symm.trans hf) |>.symm
      obtain rfl : fn = Tryz.f3 := (Option.some.inj (Tryz.func3.symm.trans hfn)).symm
      exact ⟨by kernel_rfl, fun j t ht => by
        rw [Tryz.params3] at ht
        have hm : t ∈ [9] := by simpa using Array.mem_of_getElem? ht
        have hall : ([9].all fun u => !Tryz.prog.wantsStandIn u) = true := by kernel_rfl
        exact (show Tryz.prog.wantsStandIn t = false by simpa using List.all_eq_true.1 hall t hm)⟩)
    (by kernel_rfl)
#print axioms holds
end Go.Proofs.YtncknfkinmjmdaaGreatDoor
