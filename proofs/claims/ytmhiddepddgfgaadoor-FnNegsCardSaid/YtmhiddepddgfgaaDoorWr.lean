import Derived.Test.YtmhiddepddgfgaaDoorWq
namespace Go.Proofs.YtmhiddepddgfgaaDoor
open Go.RowKit

/-- what an op on two values comes to. -/
def opOut (op k i : Int) (x y : Nat) (l j : Int) (u v : Nat) : V × Int :=
  if okB k i x y = true ∧ okB l j u v = true ∧ k = l then
    if k = 1 then intOut op i j else if k = 2 then realOut op x u else if k = 3 then pairOut op x y u v else boolOut op (i == 1) (j == 1)
  else (zV, 1)

end Go.Proofs.YtmhiddepddgfgaaDoor
