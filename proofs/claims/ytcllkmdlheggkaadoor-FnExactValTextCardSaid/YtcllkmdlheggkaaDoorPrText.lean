/- For every value the law FnExactValText returns true and its argument reads as before: the program's ValText answers as the specification's. Condition: the three listed tables of the library hold what the program's text lays; the card ties them to it. -/
import Derived.Test.YtcllkmdlheggkaaDoorVh
import Derived.Test.YtcllkmdlheggkaaDoorTie
import Derived.Test.YtcllkmdlheggkaaDoorCards
import Derived.SevenTiedAt
namespace Go.Proofs.YtcllkmdlheggkaaDoor
open Go

theorem holds : Rows.FnExactValTextCardSaid :=
  Claim7.holds_tied_plain_at .later [] [.data, .data, .data] true (true, "10df04170fe2b01e269cc7059b0f6e062bc7d2f7b1fd499b7d92c0f164719d6f") false
    row_holds (fun _ h => by cases h) (by kernel_rfl) (fun _ h => by cases h) fnExactValText_row_tie rfl ⟨rfl, rfl⟩ (by kernel_rfl) rfl
    (fun f fn hf hfn => by
      obtain rfl : f = 4 := Option.some.inj ((show Tryd.prog.funcNamed "loop.example/g00070/laws.FnExactValText" = some 4 by kernel_rfl).symm.trans hf) |>.symm
      obtain rfl : fn = Tryd.f4 := (Option.some.inj (Tryd.func4.symm.trans hfn)).symm
      exact ⟨by kernel_rfl, fun j t ht => by
        rw [Tryd.params4] at ht
        have hm : t ∈ [36] := by simpa using Array.mem_of_getElem? ht
        have hall : ([36].all fun u => !Tryd.prog.wantsStandIn u) = true := by kernel_rfl
        exact (show Tryd.prog.wantsStandIn t = false by simpa using List.all_eq_true.1 hall t hm)⟩)
    (by kernel_rfl)
#print axioms holds
end Go.Proofs.YtcllkmdlheggkaaDoor
