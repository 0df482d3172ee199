import Derived.Test.YtpfamdpgcbpiaaaWp
namespace Go.Proofs.Ytpfamdpgcbpiaaa
open Go.RowKit

def mulRe (a b c d : Nat) : Option Nat := op2 .sub (floatBits .mul .f64 a c) (floatBits .mul .f64 b d)
def mulIm (a b c d : Nat) : Option Nat := op2 .add (floatBits .mul .f64 a d) (floatBits .mul .f64 b c)

theorem run_arith_any {P : Program} (op : BinOp) (h4 : arith4 op = true) (x y : Nat) (w : World) :
    (Op.Complex.arith op .f64 x y).run P w = .ok (fres op x y w) (w.drewN (fdraw op x y)) := by
  have h := run_float_any (P := P) op h4 0 x y w
  have e : binOp op 0 (.float .f64 x) (.float .f64 y) = Op.floatArith op .f64 x y := by
    cases op <;> first | (cases h4; done) | rfl
  rw [e] at h
  simp [Op.Complex.arith, h]

theorem run_csum_any {P : Program} (op : BinOp) (hop : op = .add ∨ op = .sub) (t : TypeId) (a b c d : Nat) (w : World) :
    (binOp op t (.complex .f64 a b) (.complex .f64 c d)).run P w = .ok (.complex .f64 (fres op a c w) (fres op b d (w.drewN (fdraw op a c)))) ((w.drewN (fdraw op a c)).drewN (fdraw op b d)) := by
  rcases hop with rfl | rfl
  · simp [binOp, Op.complexOp, run_arith_any .add rfl]
  · simp [binOp, Op.complexOp, run_arith_any .sub rfl]

def pairOut (op : Int) (a b c d : Nat) : V × Int :=
  if op = 1 then (pV (floatBits .add .f64 a c) (floatBits .add .f64 b d), 0) else if op = 2 then (pV (floatBits .sub .f64 a c) (floatBits .sub .f64 b d), 0)
  else if op = 3 then (pV (mulRe a b c d) (mulIm a b c d), 0)
  else if op = 7 then (bV (FloatKind.f64.format.order a c == some Ordering.eq && FloatKind.f64.format.order b d == some Ordering.eq), 0) else (zV, 1)

def boolOut (op : Int) (a b : Bool) : V × Int :=
  if op = 7 then (bV (a == b), 0) else if op = 8 then (bV (a && b), 0) else if op = 9 then (bV (a || b), 0) else (zV, 1)

end Go.Proofs.Ytpfamdpgcbpiaaa
