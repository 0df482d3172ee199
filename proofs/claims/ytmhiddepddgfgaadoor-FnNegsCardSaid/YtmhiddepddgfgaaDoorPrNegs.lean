/- For every code the law FnNegs returns true and its argument reads as before: what is turned twice is itself, and the parts of a pair are put together to it. Condition: the three listed tables of the library hold what the program's text lays; the card ties them to it. -/
import Derived.Test.YtmhiddepddgfgaaDoorNd
import Derived.Test.YtmhiddepddgfgaaDoorTie
import Derived.Test.YtmhiddepddgfgaaDoorCards
import Derived.SevenTiedAt
namespace Go.Proofs.YtmhiddepddgfgaaDoor
open Go

theorem holds : Rows.FnNegsCardSaid :=
  Claim7.holds_tied_plain_at .later [] [.data, .data, .data] true (true, "a230535085f6faca366732d5e0008b08ab0c1500ee724e3c51feb90d07dbe12c") false
    row_holds (fun _ h => by cases h) (by kernel_rfl) (fun _ h => by cases h) fnNegs_row_tie rfl ⟨rfl, rfl⟩ (by kernel_rfl) rfl
    (fun f fn hf hfn => by
      obtain rfl : f = 3 := Option.some.inj ((show Tryd.prog.funcNamed "loop.example/g00070/laws.FnNegs" = some 3 by kernel_rfl).symm.trans hf) |>.symm
      obtain rfl : fn = Tryd.f3 := (Option.some.inj (Tryd.func3.symm.trans hfn)).symm
      exact ⟨by kernel_rfl, fun j t ht => by
        rw [Tryd.params3] at ht
        have hm : t ∈ [22] := by simpa using Array.mem_of_getElem? ht
        have hall : ([22].all fun u => !Tryd.prog.wantsStandIn u) = true := by kernel_rfl
        exact (show Tryd.prog.wantsStandIn t = false by simpa using List.all_eq_true.1 hall t hm)⟩)
    (by kernel_rfl)
#print axioms holds
end Go.Proofs.YtmhiddepddgfgaaDoor
