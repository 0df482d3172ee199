/- For every register,tree and number the law FnExactKindOf returns true and its arguments read as before:the program's KindOf answers the number that the specification's KindOf answers. Condition:the seven listed variables of the library hold what the program's text lays;the card ties them to it. -/
import Derived.Test.YtjbbagcpcepkoaaGreatDoorSf27
import Derived.Test.YtjbbagcpcepkoaaGreatDoorTie
import Derived.Test.YtjbbagcpcepkoaaGreatDoorCards
import Derived.SevenTiedAt
namespace Go.Proofs.YtjbbagcpcepkoaaGreatDoor
set_option maxRecDepth 100000
set_option maxHeartbeats 64000000
open Go
theorem holds:Rows.FnExactKindOfCardSaid :=
  Claim7.holds_tied_plain_at .later [] [.data, .data, .data, .data, .sentinel, .sentinel, .pinned] true (true, "f45f3790932de4a2b05eb12e2f66097364ce6dd763d72c6ec0e342aea80b77e1") true
    row_holds (λ_ h=>by cases h) (by kernel_rfl) (λ_ h=>by cases h) fnExactKindOf_row_tie rfl ⟨rfl,rfl⟩ (by kernel_rfl) rfl
    (λf fn hf hfn=>by
      obtain rfl : f = 4 := Option.some.inj ((show Tryz.prog.funcNamed "loop.example/g00070/laws.FnExactKindOf" = some 4 by kernel_rfl).symm.trans hf) |>.symm
      obtain rfl:fn=Tryz.f4:=(Option.some.inj (Tryz.func4.symm.trans hfn)).symm
      exact⟨by kernel_rfl,λj t ht=>by
        rw[Tryz.params4] at ht
        have hm:t∈[24,28,3]:=by simpa using Array.mem_of_getElem? ht
        have hall:([24,28,3].all λu=>!Tryz.prog.wantsStandIn u)=true:=by kernel_rfl
        exact(show Tryz.prog.wantsStandIn t=false by simpa using List.all_eq_true.1 hall t hm)⟩)
    (by kernel_rfl)
#print axioms holds
end Go.Proofs.YtjbbagcpcepkoaaGreatDoor
