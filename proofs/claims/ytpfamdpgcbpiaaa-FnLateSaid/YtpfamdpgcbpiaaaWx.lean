import Derived.Test.YtpfamdpgcbpiaaaWq
namespace Go.Proofs.Ytpfamdpgcbpiaaa
open Go.RowKit

/-- the word with the other sign. -/
def negF (x : Nat) : Nat := x ^^^ 9223372036854775808

theorem negF_lt {x : Nat} (h : x < 18446744073709551616) : negF x < 18446744073709551616 := by
  unfold negF; exact Nat.xor_lt_two_pow (n := 64) h (by decide)

theorem run_neg (x : Nat) (w : World) : (Op.unary .neg (.float .f64 x)).run Try.prog w = .ok (.float .f64 (negF x)) w := rfl
theorem run_cneg (x y : Nat) (w : World) : (Op.unary .neg (.complex .f64 x y)).run Try.prog w = .ok (.complex .f64 (negF x) (negF y)) w := rfl

theorem ofInt_lt (n : Int) : floatOfInt .f64 n < 18446744073709551616 := by
  have := floatOfInt_wf .f64 n
  simpa [Lit.wf] using this

def sizeF (x y : Nat) : Option Nat := op2 .add (floatBits .mul .f64 x x) (floatBits .mul .f64 y y)

def intTurnOut (op i : Int) : V × Int :=
  if op = 1 then (iV (wrap64 (-i)), 0) else if op = 5 then (rV (some (floatOfInt .f64 i)), 0) else (zV, 1)
def realTurnOut (op : Int) (x : Nat) : V × Int := if op = 1 then (rV (some (negF x)), 0) else (zV, 1)
def pairTurnOut (op : Int) (x y : Nat) : V × Int :=
  if op = 1 then (pV (some (negF x)) (some (negF y)), 0) else if op = 3 then (rV (some x), 0) else if op = 4 then (rV (some y), 0) else if op = 6 then (rV (sizeF x y), 0) else (zV, 1)
def boolTurnOut (op : Int) (b : Bool) : V × Int := if op = 2 then (bV (!b), 0) else (zV, 1)
def turnOut (op k i : Int) (x y : Nat) : V × Int :=
  if okB k i x y = true then
    if k = 1 then intTurnOut op i else if k = 2 then realTurnOut op x else if k = 3 then pairTurnOut op x y else boolTurnOut op (i == 1)
  else (zV, 1)

end Go.Proofs.Ytpfamdpgcbpiaaa
