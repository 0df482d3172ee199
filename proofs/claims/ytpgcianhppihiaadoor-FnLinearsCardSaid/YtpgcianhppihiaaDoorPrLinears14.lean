/- For every code the law FnLinears returns true and its argument reads as before: of a small drawn graph all orders are right, rise, and are as many as told; behind the last one there is none. Condition: the one listed table of the library holds what the program's text lays; the card ties it to it. -/
import Derived.Test.YtpgcianhppihiaaDoorG69
import Derived.Test.YtpgcianhppihiaaDoorTie
import Derived.Test.YtpgcianhppihiaaDoorCards
import Derived.SevenTiedAt
namespace Go.Proofs.YtpgcianhppihiaaDoor
open Go

theorem holds : Rows.FnLinearsCardSaid :=
  Claim7.holds_tied_plain_at .later [] [.data] true (true, "80032483dbc59169f164bba2903de126aa1f5ee4c26f880b35f2f31f580e10de") false
    row_holds (fun _ h => by cases h) (by kernel_rfl) (fun _ h => by cases h) fnLinears_row_tie rfl ⟨rfl, rfl⟩ (by kernel_rfl) rfl
    (fun f fn hf hfn => by
      obtain rfl : f = 6 := Option.some.inj ((show Tryd.prog.funcNamed "loop.example/g00070/laws.FnLinears" = some 6 by kernel_rfl).symm.trans hf) |>.symm
      obtain rfl : fn = Tryd.f6 := (Option.some.inj (Tryd.func6.symm.trans hfn)).symm
      exact ⟨by kernel_rfl, fun j t ht => by
        rw [Tryd.params6] at ht
        have hm : t ∈ [22] := by simpa using Array.mem_of_getElem? ht
        have hall : ([22].all fun u => !Tryd.prog.wantsStandIn u) = true := by kernel_rfl
        exact (show Tryd.prog.wantsStandIn t = false by simpa using List.all_eq_true.1 hall t hm)⟩)
    (by kernel_rfl)
#print axioms holds
end Go.Proofs.YtpgcianhppihiaaDoor
