/- For every code the law FnMeet returns true and its argument reads as before: with two workers or more two tasks of a drawn graph without a circle are told to meet just if neither is ahead of the other one; the moves told are such that there are, both tasks run behind them, and there are two at least; elsewhere the program says yes or no as the model does. Condition: the one listed table of the library holds what the program's text lays; the card ties it to it. -/
import Derived.Test.YtigllpegaljkmaaDoorN55j
import Derived.Test.YtigllpegaljkmaaDoorTie
import Derived.Test.YtigllpegaljkmaaDoorCards
import Derived.SevenTiedAt
namespace Go.Proofs.YtigllpegaljkmaaDoor
open Go

theorem holds : Rows.FnMeetCardSaid :=
  Claim7.holds_tied_plain_at .later [] [.data] true (true, "023d6920f29db94c1d31ac1d2d6d9bb0a71ca7a25bb6b06e2eb750f18fa328c6") false
    row_holds (fun _ h => by cases h) (by kernel_rfl) (fun _ h => by cases h) fnMeet_row_tie rfl ⟨rfl, rfl⟩ (by kernel_rfl) rfl
    (fun f fn hf hfn => by
      obtain rfl : f = 3 := Option.some.inj ((show Tryd.prog.funcNamed "loop.example/g00070/laws.FnMeet" = some 3 by kernel_rfl).symm.trans hf) |>.symm
      obtain rfl : fn = Tryd.f3 := (Option.some.inj (Tryd.func3.symm.trans hfn)).symm
      exact ⟨by kernel_rfl, fun j t ht => by
        rw [Tryd.params3] at ht
        have hm : t ∈ [22] := by simpa using Array.mem_of_getElem? ht
        have hall : ([22].all fun u => !Tryd.prog.wantsStandIn u) = true := by kernel_rfl
        exact (show Tryd.prog.wantsStandIn t = false by simpa using List.all_eq_true.1 hall t hm)⟩)
    (by kernel_rfl)
#print axioms holds
end Go.Proofs.YtigllpegaljkmaaDoor
