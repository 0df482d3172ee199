import Derived.Test.YtgcfhoojjgcpiaaDoorKa
import Derived.Test.YtgcfhoojjgcpiaaDoorSk
namespace Go.Proofs.YtgcfhoojjgcpiaaDoor
open Go.RowKit Go.Maps Go.WideMaps
set_option linter.unusedVariables false
set_option linter.unusedSimpArgs false
set_option maxRecDepth 100000

theorem in_cmp (A : List (ByteArray × Int)) (c : Int) : (decide (0 ≤ c) && decide (c ≤ (A.length : Int) - 1)) = cmpB A c := by
  unfold cmpB
  congr 1
  rw [decide_eq_decide]
  omega

end Go.Proofs.YtgcfhoojjgcpiaaDoor
