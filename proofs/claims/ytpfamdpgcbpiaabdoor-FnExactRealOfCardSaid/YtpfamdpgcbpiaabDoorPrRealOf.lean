/- For every text the law FnExactRealOf returns true and its argument reads as before: the program's RealOf answers as the specification's. Condition: the five listed variables of the library hold what the program's text lays; the card ties them to it. -/
import Derived.Test.YtpfamdpgcbpiaabDoorXf
import Derived.Test.YtpfamdpgcbpiaabDoorTie
import Derived.Test.YtpfamdpgcbpiaabDoorCards
import Derived.SevenTiedAt
namespace Go.Proofs.YtpfamdpgcbpiaabDoor
open Go

theorem holds : Rows.FnExactRealOfCardSaid :=
  Claim7.holds_tied_plain_at .later [] [.data, .data, .data, .sentinel, .sentinel] true (true, "2a04b7d6bcb76c8935f746a272b29d38b15d7689072db584e568714121b09d36") true
    row_holds (fun _ h => by cases h) (by kernel_rfl) (fun _ h => by cases h) fnExactRealOf_row_tie rfl ⟨rfl, rfl⟩ (by kernel_rfl) rfl
    (fun f fn hf hfn => by
      obtain rfl : f = 3 := Option.some.inj ((show Tryd.prog.funcNamed "loop.example/g00070/laws.FnExactRealOf" = some 3 by kernel_rfl).symm.trans hf) |>.symm
      obtain rfl : fn = Tryd.f3 := (Option.some.inj (Tryd.func3.symm.trans hfn)).symm
      exact ⟨by kernel_rfl, fun j t ht => by
        rw [Tryd.params3] at ht
        have hm : t ∈ [9] := by simpa using Array.mem_of_getElem? ht
        have hall : ([9].all fun u => !Tryd.prog.wantsStandIn u) = true := by kernel_rfl
        exact (show Tryd.prog.wantsStandIn t = false by simpa using List.all_eq_true.1 hall t hm)⟩)
    (by kernel_rfl)
#print axioms holds
end Go.Proofs.YtpfamdpgcbpiaabDoor
