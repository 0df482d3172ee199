import Derived.Test.YtpfamdpgcbpiaaaWo
namespace Go.Proofs.Ytpfamdpgcbpiaaa
open Go.RowKit

def realOut (op : Int) (a b : Nat) : V × Int :=
  if op = 1 then (rV (floatBits .add .f64 a b), 0) else if op = 2 then (rV (floatBits .sub .f64 a b), 0) else if op = 3 then (rV (floatBits .mul .f64 a b), 0)
  else if op = 4 then (rV (floatBits .quo .f64 a b), 0)
  else if op = 6 then (bV (FloatKind.f64.format.order a b == some Ordering.lt), 0) else if op = 7 then (bV (FloatKind.f64.format.order a b == some Ordering.eq), 0) else (zV, 1)

end Go.Proofs.Ytpfamdpgcbpiaaa
