import Derived.Test.YtkbgklnkagpchaaWa
namespace Go.Proofs.Ytkbgklnkagpchaa
open Go.RowKit

def okB (k i : Int) (x y : Nat) : Bool :=
  if k = 1 then plusB x && plusB y else if k = 2 then i == 0 && plusB y else if k = 3 then i == 0
  else if k = 4 then (i == 0 || i == 1) && plusB x && plusB y else false

end Go.Proofs.Ytkbgklnkagpchaa
