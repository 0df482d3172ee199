import Derived.Test.YtmhiddepddgfgaaDoorWdu
import Derived.Test.YtmhiddepddgfgaaDoorWr
namespace Go.Proofs.YtmhiddepddgfgaaDoor
open Go.RowKit
set_option linter.unusedVariables false

set_option maxHeartbeats 1000000 in
theorem big_any (sl : Option Addr) (len cap : Nat) (w : World) :
    Calls Tryd.prog 4 #[.slice sl len cap] w fun e w' => e = .returned (.bool (decide (1048576 < (len : Int)))) ∧ w' = w := by
  go_enter Tryd.func4, Tryd.ntmps4
  go_wp2
  go_ret
  exact ⟨rfl, rfl⟩

end Go.Proofs.YtmhiddepddgfgaaDoor
