package tests

import (
	"math"
	"math/big"
	"testing"

	"loop.example/g00070/impl"
)

const leastInt = math.MinInt64
const mostInt = math.MaxInt64

var negZero = math.Copysign(0, -1)
var nan = math.NaN()
var inf = math.Inf(1)

// otherNaN has other bits than math.NaN has.
var otherNaN = math.Float64frombits(0xfff8000000000123)

func whole(n int) impl.Val { return impl.Val{Kind: impl.KInt, I: n} }

func float(x float64) impl.Val { return impl.Val{Kind: impl.KReal, X: x} }

func pair(x, y float64) impl.Val { return impl.Val{Kind: impl.KPair, X: x, Y: y} }

func yesNo(yes bool) impl.Val {
	if yes {
		return impl.Val{Kind: impl.KBool, I: 1}
	}
	return impl.Val{Kind: impl.KBool}
}

// bitsOf makes one number of all NaNs, so that same can do without ValSame.
func bitsOf(x float64) uint64 {
	if x != x {
		return math.Float64bits(nan)
	}
	return math.Float64bits(x)
}

func same(a, b impl.Val) bool {
	return a.Kind == b.Kind && a.I == b.I && bitsOf(a.X) == bitsOf(b.X) && bitsOf(a.Y) == bitsOf(b.Y)
}

var someInts = []int{0, 1, -1, 2, -2, 3, -3, 7, -7, 10, 64, 1000003, -1000003, 1 << 31, -1 << 31, 1 << 32, 3037000500, -3037000500, 1<<53 + 1, 1 << 62, -1 << 62, mostInt - 1, mostInt, leastInt, leastInt + 1}

var someFloats = []float64{0, negZero, 1, -1, 0.5, -0.25, 0.1, 3, -7.75, 1e-300, -1e300, 1e300, math.SmallestNonzeroFloat64, math.MaxFloat64, 1 << 40, inf, -inf, nan, otherNaN}

// rightValues holds values of every kind, the edges among them.
func rightValues() []impl.Val {
	list := []impl.Val{yesNo(false), yesNo(true)}
	for _, n := range someInts {
		list = append(list, whole(n))
	}
	for i, x := range someFloats {
		list = append(list, float(x))
		for j := 0; j < 4; j++ {
			list = append(list, pair(x, someFloats[(i*5+j*7)%len(someFloats)]))
		}
	}
	return list
}

// wrongValues holds values each of which breaks one rule of ValOk.
func wrongValues() []impl.Val {
	return []impl.Val{
		{},
		{Kind: -1},
		{Kind: 5},
		{Kind: mostInt},
		{Kind: leastInt},
		{Kind: 0, I: 1, X: 1, Y: 1},
		{Kind: impl.KInt, I: 3, X: 1},
		{Kind: impl.KInt, I: 3, Y: 1},
		{Kind: impl.KInt, X: negZero},
		{Kind: impl.KInt, Y: negZero},
		{Kind: impl.KInt, X: nan},
		{Kind: impl.KInt, Y: inf},
		{Kind: impl.KReal, I: 1, X: 2},
		{Kind: impl.KReal, I: -1},
		{Kind: impl.KReal, X: 2, Y: 1},
		{Kind: impl.KReal, X: 2, Y: negZero},
		{Kind: impl.KReal, Y: nan},
		{Kind: impl.KPair, I: 1, X: 2, Y: 3},
		{Kind: impl.KPair, I: leastInt},
		{Kind: impl.KBool, I: 2},
		{Kind: impl.KBool, I: -1},
		{Kind: impl.KBool, I: 1, X: 1},
		{Kind: impl.KBool, I: 1, Y: 1},
		{Kind: impl.KBool, X: negZero},
		{Kind: impl.KBool, Y: negZero},
		{Kind: impl.KBool, I: 1, X: nan},
	}
}

func TestValueConstants(t *testing.T) {
	got := [][]int{
		{impl.KInt, impl.KReal, impl.KPair, impl.KBool},
		{impl.OpAdd, impl.OpSub, impl.OpMul, impl.OpDiv, impl.OpMod, impl.OpLess, impl.OpSame, impl.OpAnd, impl.OpOr},
		{impl.OpDone + 1, impl.OpKind + 1, impl.OpZero + 1},
		{impl.TurnNeg, impl.TurnNot, impl.TurnRe, impl.TurnIm, impl.TurnReal, impl.TurnSize},
	}
	for i, list := range got {
		for j, n := range list {
			if n != j+1 {
				t.Error("constant", i, j, n)
			}
		}
	}
}

func TestValOk(t *testing.T) {
	for i, v := range rightValues() {
		if !impl.ValOk(v) {
			t.Error("right", i, v)
		}
	}
	for i, v := range wrongValues() {
		if impl.ValOk(v) {
			t.Error("wrong", i, v)
		}
	}
}

func TestValZero(t *testing.T) {
	for _, kind := range []int{impl.KInt, impl.KReal, impl.KPair, impl.KBool} {
		v := impl.ValZero(kind)
		if !same(v, impl.Val{Kind: kind}) || !impl.ValOk(v) {
			t.Error("kind", kind, v)
		}
	}
	for _, kind := range []int{0, -1, 5, leastInt, mostInt} {
		if v := impl.ValZero(kind); !same(v, impl.Val{}) {
			t.Error("no kind", kind, v)
		}
	}
}

func TestValSame(t *testing.T) {
	all := append(rightValues(), wrongValues()...)
	for i, a := range all {
		for j, b := range all {
			if got := impl.ValSame(a, b); got != same(a, b) {
				t.Error("same", i, j, a, b, got)
			}
		}
	}
	for i, c := range []struct {
		a, b impl.Val
		want bool
	}{
		{float(0), float(negZero), false},
		{float(negZero), float(negZero), true},
		{float(nan), float(otherNaN), true},
		{float(nan), float(0), false},
		{float(1), float(nan), false},
		{pair(1, nan), pair(1, otherNaN), true},
		{pair(1, 0), pair(1, negZero), false},
		{pair(nan, 1), pair(nan, 2), false},
		{whole(0), float(0), false},
		{whole(0), yesNo(false), false},
		{whole(4), whole(5), false},
		{impl.Val{Kind: 9, I: 3, X: nan, Y: 1}, impl.Val{Kind: 9, I: 3, X: nan, Y: 1}, true},
		{impl.Val{Kind: 9}, impl.Val{Kind: 8}, false},
	} {
		if got := impl.ValSame(c.a, c.b); got != c.want {
			t.Error("edge", i, c.a, c.b, got)
		}
		if got := impl.ValSame(c.b, c.a); got != c.want {
			t.Error("edge, turned about", i, c.a, c.b, got)
		}
	}
}

type opCase struct {
	op   int
	a, b impl.Val
	want impl.Val
	code int
}

func tryOps(t *testing.T, list []opCase) {
	t.Helper()
	for i, c := range list {
		v, code := impl.ValOp(c.op, c.a, c.b)
		if code != c.code || !same(v, c.want) {
			t.Error("op", i, c.op, c.a, c.b, "got", v, code, "want", c.want, c.code)
		}
	}
}

func TestWholeOps(t *testing.T) {
	w := whole
	tryOps(t, []opCase{
		{impl.OpAdd, w(2), w(3), w(5), impl.OpDone},
		{impl.OpSub, w(2), w(3), w(-1), impl.OpDone},
		{impl.OpMul, w(-4), w(3), w(-12), impl.OpDone},
		{impl.OpAdd, w(mostInt), w(1), w(leastInt), impl.OpDone},
		{impl.OpSub, w(leastInt), w(1), w(mostInt), impl.OpDone},
		{impl.OpMul, w(1 << 62), w(2), w(leastInt), impl.OpDone},
		{impl.OpMul, w(1 << 62), w(4), w(0), impl.OpDone},
		{impl.OpMul, w(leastInt), w(-1), w(leastInt), impl.OpDone},
		{impl.OpDiv, w(7), w(2), w(3), impl.OpDone},
		{impl.OpDiv, w(7), w(-2), w(-3), impl.OpDone},
		{impl.OpDiv, w(-7), w(2), w(-3), impl.OpDone},
		{impl.OpDiv, w(-7), w(-2), w(3), impl.OpDone},
		{impl.OpMod, w(7), w(2), w(1), impl.OpDone},
		{impl.OpMod, w(7), w(-2), w(1), impl.OpDone},
		{impl.OpMod, w(-7), w(2), w(-1), impl.OpDone},
		{impl.OpMod, w(-7), w(-2), w(-1), impl.OpDone},
		{impl.OpMod, w(-6), w(3), w(0), impl.OpDone},
		{impl.OpDiv, w(leastInt), w(-1), w(leastInt), impl.OpDone},
		{impl.OpMod, w(leastInt), w(-1), w(0), impl.OpDone},
		{impl.OpDiv, w(1), w(0), impl.Val{}, impl.OpZero},
		{impl.OpMod, w(1), w(0), impl.Val{}, impl.OpZero},
		{impl.OpDiv, w(0), w(0), impl.Val{}, impl.OpZero},
		{impl.OpMod, w(leastInt), w(0), impl.Val{}, impl.OpZero},
		{impl.OpLess, w(2), w(3), yesNo(true), impl.OpDone},
		{impl.OpLess, w(3), w(3), yesNo(false), impl.OpDone},
		{impl.OpLess, w(3), w(2), yesNo(false), impl.OpDone},
		{impl.OpLess, w(leastInt), w(mostInt), yesNo(true), impl.OpDone},
		{impl.OpSame, w(3), w(3), yesNo(true), impl.OpDone},
		{impl.OpSame, w(3), w(-3), yesNo(false), impl.OpDone},
	})
}

func TestRealOps(t *testing.T) {
	f := float
	tryOps(t, []opCase{
		{impl.OpAdd, f(1.5), f(0.25), f(1.75), impl.OpDone},
		{impl.OpSub, f(1.5), f(0.25), f(1.25), impl.OpDone},
		{impl.OpMul, f(1.5), f(-0.25), f(-0.375), impl.OpDone},
		{impl.OpDiv, f(1.5), f(-0.25), f(-6), impl.OpDone},
		{impl.OpDiv, f(1), f(0), f(inf), impl.OpDone},
		{impl.OpDiv, f(1), f(negZero), f(-inf), impl.OpDone},
		{impl.OpDiv, f(0), f(0), f(nan), impl.OpDone},
		{impl.OpDiv, f(0), f(-3), f(negZero), impl.OpDone},
		{impl.OpAdd, f(negZero), f(negZero), f(negZero), impl.OpDone},
		{impl.OpAdd, f(0), f(negZero), f(0), impl.OpDone},
		{impl.OpMul, f(0), f(-1), f(negZero), impl.OpDone},
		{impl.OpSub, f(inf), f(inf), f(nan), impl.OpDone},
		{impl.OpAdd, f(math.MaxFloat64), f(math.MaxFloat64), f(inf), impl.OpDone},
		{impl.OpMul, f(nan), f(0), f(nan), impl.OpDone},
		{impl.OpLess, f(1), f(2), yesNo(true), impl.OpDone},
		{impl.OpLess, f(2), f(1), yesNo(false), impl.OpDone},
		{impl.OpLess, f(1), f(1), yesNo(false), impl.OpDone},
		{impl.OpLess, f(negZero), f(0), yesNo(false), impl.OpDone},
		{impl.OpLess, f(-inf), f(inf), yesNo(true), impl.OpDone},
		{impl.OpLess, f(nan), f(1), yesNo(false), impl.OpDone},
		{impl.OpLess, f(1), f(nan), yesNo(false), impl.OpDone},
		{impl.OpSame, f(1), f(1), yesNo(true), impl.OpDone},
		{impl.OpSame, f(1), f(2), yesNo(false), impl.OpDone},
		{impl.OpSame, f(0), f(negZero), yesNo(true), impl.OpDone},
		{impl.OpSame, f(nan), f(nan), yesNo(false), impl.OpDone},
		{impl.OpSame, f(inf), f(inf), yesNo(true), impl.OpDone},
	})
}

func TestPairOps(t *testing.T) {
	p := pair
	tryOps(t, []opCase{
		{impl.OpAdd, p(1, 2), p(3, -4), p(4, -2), impl.OpDone},
		{impl.OpSub, p(1, 2), p(3, -4), p(-2, 6), impl.OpDone},
		{impl.OpMul, p(1, 2), p(3, 4), p(-5, 10), impl.OpDone},
		{impl.OpMul, p(2, -3), p(-5, 7), p(11, 29), impl.OpDone},
		{impl.OpMul, p(0, 1), p(0, 1), p(-1, 0), impl.OpDone},
		{impl.OpMul, p(0, 0), p(-1, 0), p(negZero, 0), impl.OpDone},
		{impl.OpMul, p(inf, 0), p(0, 1), p(nan, inf), impl.OpDone},
		{impl.OpMul, p(inf, inf), p(inf, inf), p(nan, inf), impl.OpDone},
		{impl.OpAdd, p(inf, negZero), p(-inf, negZero), p(nan, negZero), impl.OpDone},
		{impl.OpAdd, p(negZero, 0), p(0, negZero), p(0, 0), impl.OpDone},
		{impl.OpSub, p(negZero, 1), p(0, nan), p(negZero, nan), impl.OpDone},
		{impl.OpSame, p(1, 2), p(1, 2), yesNo(true), impl.OpDone},
		{impl.OpSame, p(1, 2), p(1, 3), yesNo(false), impl.OpDone},
		{impl.OpSame, p(1, 2), p(3, 2), yesNo(false), impl.OpDone},
		{impl.OpSame, p(0, negZero), p(negZero, 0), yesNo(true), impl.OpDone},
		{impl.OpSame, p(1, nan), p(1, nan), yesNo(false), impl.OpDone},
		{impl.OpSame, p(nan, 1), p(nan, 1), yesNo(false), impl.OpDone},
	})
}

// The square of e is not a float: rounded first it is sq, and sq less it is 0.
func TestProductsAreRoundedFirst(t *testing.T) {
	e := 1 + 1.0/(1<<30)
	sq := e * e
	if math.FMA(e, e, -sq) == 0 {
		t.Fatal("the square is a float")
	}
	tryOps(t, []opCase{
		{impl.OpMul, pair(e, 1), pair(e, sq), pair(0, float64(e*sq)+e), impl.OpDone},
		{impl.OpMul, pair(1, e), pair(sq, e), pair(0, e+float64(e*sq)), impl.OpDone},
		{impl.OpMul, pair(e, -1), pair(sq, e), pair(float64(e*sq)+e, 0), impl.OpDone},
		{impl.OpMul, pair(-1, e), pair(e, sq), pair(-e-float64(e*sq), 0), impl.OpDone},
	})
	x, y := 0.1, 0.3
	size := float64(x*x) + float64(y*y)
	if math.FMA(x, x, float64(y*y)) == size || math.FMA(y, y, float64(x*x)) == size {
		t.Fatal("rounded at once it is the same")
	}
	if v, code := impl.ValTurn(impl.TurnSize, pair(x, y)); code != impl.OpDone || !same(v, float(size)) {
		t.Error("size", v, code)
	}
}

func TestBoolOps(t *testing.T) {
	var list []opCase
	for _, a := range []bool{false, true} {
		for _, b := range []bool{false, true} {
			list = append(list,
				opCase{impl.OpSame, yesNo(a), yesNo(b), yesNo(a == b), impl.OpDone},
				opCase{impl.OpAnd, yesNo(a), yesNo(b), yesNo(a && b), impl.OpDone},
				opCase{impl.OpOr, yesNo(a), yesNo(b), yesNo(a || b), impl.OpDone})
		}
	}
	tryOps(t, list)
}

// opIsFor says of each kind which ops the document has for it.
func opIsFor(op, kind int) bool {
	table := [][]int{
		impl.KInt:  {impl.OpAdd, impl.OpSub, impl.OpMul, impl.OpDiv, impl.OpMod, impl.OpLess, impl.OpSame},
		impl.KReal: {impl.OpAdd, impl.OpSub, impl.OpMul, impl.OpDiv, impl.OpLess, impl.OpSame},
		impl.KPair: {impl.OpAdd, impl.OpSub, impl.OpMul, impl.OpSame},
		impl.KBool: {impl.OpSame, impl.OpAnd, impl.OpOr},
	}
	return contains(table[kind], op)
}

func turnIsFor(op, kind int) bool {
	table := [][]int{
		impl.KInt:  {impl.TurnNeg, impl.TurnReal},
		impl.KReal: {impl.TurnNeg},
		impl.KPair: {impl.TurnNeg, impl.TurnRe, impl.TurnIm, impl.TurnSize},
		impl.KBool: {impl.TurnNot},
	}
	return contains(table[kind], op)
}

func contains(list []int, n int) bool {
	for _, m := range list {
		if m == n {
			return true
		}
	}
	return false
}

var allOps = []int{leastInt, -9, -1, 0, 1, 2, 3, 4, 5, 6, 7, 8, 9, 10, 11, 100, mostInt}

// wantCode is what the document's words say of right and wrong arguments.
func wantCode(op int, a, b impl.Val) int {
	if a.Kind != b.Kind || !opIsFor(op, a.Kind) {
		return impl.OpKind
	}
	if a.Kind == impl.KInt && b.I == 0 && (op == impl.OpDiv || op == impl.OpMod) {
		return impl.OpZero
	}
	return impl.OpDone
}

func TestOpsAnswerRightValuesOrRefuse(t *testing.T) {
	right := rightValues()
	for _, op := range allOps {
		for _, a := range right {
			for _, b := range right {
				v, code := impl.ValOp(op, a, b)
				if code != wantCode(op, a, b) {
					t.Fatal("code", op, a, b, v, code)
				}
				if code != impl.OpDone && !same(v, impl.Val{}) {
					t.Fatal("refused, but", op, a, b, v)
				}
				if code == impl.OpDone && !impl.ValOk(v) {
					t.Fatal("not right", op, a, b, v)
				}
				told := op == impl.OpLess || op >= impl.OpSame
				if code == impl.OpDone && (told && v.Kind != impl.KBool || !told && v.Kind != a.Kind) {
					t.Fatal("kind", op, a, b, v)
				}
			}
		}
	}
}

func TestOpsRefuseWrongValues(t *testing.T) {
	for _, op := range allOps {
		for _, bad := range wrongValues() {
			for _, good := range append(rightValues(), bad) {
				for _, c := range [][2]impl.Val{{bad, good}, {good, bad}} {
					v, code := impl.ValOp(op, c[0], c[1])
					if code != impl.OpKind || !same(v, impl.Val{}) {
						t.Fatal("op", op, c, v, code)
					}
				}
			}
		}
	}
}

// A wrong divisor or two kinds count ahead of the division by 0.
func TestKindCountsAheadOfZero(t *testing.T) {
	for _, op := range []int{impl.OpDiv, impl.OpMod} {
		tryOps(t, []opCase{
			{op, impl.Val{Kind: impl.KInt, X: 1}, whole(0), impl.Val{}, impl.OpKind},
			{op, whole(1), impl.Val{Kind: impl.KInt, Y: negZero}, impl.Val{}, impl.OpKind},
			{op, float(1), whole(0), impl.Val{}, impl.OpKind},
		})
	}
}

func TestTurns(t *testing.T) {
	for i, c := range []struct {
		op      int
		a, want impl.Val
	}{
		{impl.TurnNeg, whole(5), whole(-5)},
		{impl.TurnNeg, whole(-5), whole(5)},
		{impl.TurnNeg, whole(0), whole(0)},
		{impl.TurnNeg, whole(mostInt), whole(leastInt + 1)},
		{impl.TurnNeg, whole(leastInt), whole(leastInt)},
		{impl.TurnNeg, float(2.5), float(-2.5)},
		{impl.TurnNeg, float(0), float(negZero)},
		{impl.TurnNeg, float(negZero), float(0)},
		{impl.TurnNeg, float(inf), float(-inf)},
		{impl.TurnNeg, float(nan), float(nan)},
		{impl.TurnNeg, pair(1, -2), pair(-1, 2)},
		{impl.TurnNeg, pair(0, negZero), pair(negZero, 0)},
		{impl.TurnNeg, pair(nan, 0), pair(nan, negZero)},
		{impl.TurnNeg, pair(-inf, nan), pair(inf, nan)},
		{impl.TurnNot, yesNo(true), yesNo(false)},
		{impl.TurnNot, yesNo(false), yesNo(true)},
		{impl.TurnRe, pair(3, 4), float(3)},
		{impl.TurnRe, pair(negZero, 4), float(negZero)},
		{impl.TurnRe, pair(nan, 4), float(nan)},
		{impl.TurnIm, pair(3, 4), float(4)},
		{impl.TurnIm, pair(3, negZero), float(negZero)},
		{impl.TurnIm, pair(3, -inf), float(-inf)},
		{impl.TurnReal, whole(-3), float(-3)},
		{impl.TurnReal, whole(0), float(0)},
		{impl.TurnReal, whole(1<<53 + 1), float(1 << 53)},
		{impl.TurnReal, whole(1<<53 + 3), float(1<<53 + 4)},
		{impl.TurnReal, whole(mostInt), float(1 << 63)},
		{impl.TurnReal, whole(leastInt), float(-1 << 63)},
		{impl.TurnSize, pair(3, 4), float(25)},
		{impl.TurnSize, pair(-3, negZero), float(9)},
		{impl.TurnSize, pair(0, 1e200), float(inf)},
		{impl.TurnSize, pair(-inf, nan), float(nan)},
	} {
		v, code := impl.ValTurn(c.op, c.a)
		if code != impl.OpDone || !same(v, c.want) {
			t.Error("turn", i, c.op, c.a, "got", v, code, "want", c.want)
		}
	}
}

func TestTurnsAnswerRightValuesOrRefuse(t *testing.T) {
	for _, op := range allOps {
		for _, a := range rightValues() {
			v, code := impl.ValTurn(op, a)
			if turnIsFor(op, a.Kind) != (code == impl.OpDone) {
				t.Error("code", op, a, v, code)
			}
			if code == impl.OpDone && !impl.ValOk(v) {
				t.Error("not right", op, a, v)
			}
			if code != impl.OpDone && (code != impl.OpKind || !same(v, impl.Val{})) {
				t.Error("refused, but", op, a, v, code)
			}
		}
		for _, a := range wrongValues() {
			if v, code := impl.ValTurn(op, a); code != impl.OpKind || !same(v, impl.Val{}) {
				t.Error("wrong value", op, a, v, code)
			}
		}
	}
}

func TestValPair(t *testing.T) {
	for _, x := range someFloats {
		for _, y := range someFloats {
			v, ok := impl.ValPair(float(x), float(y))
			if !ok || !same(v, pair(x, y)) || !impl.ValOk(v) {
				t.Error("pair", x, y, v, ok)
			}
		}
	}
	refused := append(wrongValues(), whole(0), whole(2), pair(0, 0), pair(1, 2), yesNo(true), yesNo(false))
	for _, bad := range refused {
		for _, c := range [][2]impl.Val{{bad, float(1)}, {float(1), bad}, {bad, bad}} {
			if v, ok := impl.ValPair(c[0], c[1]); ok || !same(v, impl.Val{}) {
				t.Error("no pair", c, v, ok)
			}
		}
	}
}

func TestValText(t *testing.T) {
	limit := float64(1 << 40)
	for i, c := range []struct {
		v    impl.Val
		want string
	}{
		{whole(0), "0"},
		{whole(-70), "-70"},
		{whole(mostInt), "9223372036854775807"},
		{whole(leastInt), "-9223372036854775808"},
		{yesNo(true), "yes"},
		{yesNo(false), "no"},
		{float(0), "0/1024"},
		{float(negZero), "0/1024"},
		{float(1.5), "1536/1024"},
		{float(-0.25), "-256/1024"},
		{float(1.0 / 1024), "1/1024"},
		{float(-1.0 / 1024), "-1/1024"},
		{float(math.Nextafter(1.0/1024, 0)), "0/1024"},
		{float(math.Nextafter(-1.0/1024, 0)), "0/1024"},
		{float(-0.0001), "0/1024"},
		{float(math.SmallestNonzeroFloat64), "0/1024"},
		{float(1.9999 / 1024), "1/1024"},
		{float(-1.9999 / 1024), "-1/1024"},
		{float(limit), "big"},
		{float(-limit), "-big"},
		{float(math.Nextafter(limit, 0)), "1125899906842623/1024"},
		{float(math.Nextafter(-limit, 0)), "-1125899906842623/1024"},
		{float(limit - 1), "1125899906841600/1024"},
		{float(inf), "big"},
		{float(-inf), "-big"},
		{float(nan), "nan"},
		{float(otherNaN), "nan"},
		{pair(1, -2), "(1024/1024 -2048/1024)"},
		{pair(negZero, nan), "(0/1024 nan)"},
		{pair(inf, -limit), "(big -big)"},
		{pair(0.0001, 0.5), "(0/1024 512/1024)"},
	} {
		if got := impl.ValText(c.v); got != c.want {
			t.Error("text", i, c.v, got, c.want)
		}
	}
	for i, v := range wrongValues() {
		if got := impl.ValText(v); got != "?" {
			t.Error("wrong value", i, v, got)
		}
	}
}

// wrapped is n as it is left in 64 bits.
func wrapped(n *big.Int) int {
	low := new(big.Int).And(n, new(big.Int).SetUint64(math.MaxUint64))
	return int(low.Uint64())
}

func TestWholeOpsAreThoseOfLongNumbers(t *testing.T) {
	for _, a := range someInts {
		for _, b := range someInts {
			x, y := big.NewInt(int64(a)), big.NewInt(int64(b))
			tryOps(t, []opCase{
				{impl.OpAdd, whole(a), whole(b), whole(wrapped(new(big.Int).Add(x, y))), impl.OpDone},
				{impl.OpSub, whole(a), whole(b), whole(wrapped(new(big.Int).Sub(x, y))), impl.OpDone},
				{impl.OpMul, whole(a), whole(b), whole(wrapped(new(big.Int).Mul(x, y))), impl.OpDone},
				{impl.OpLess, whole(a), whole(b), yesNo(x.Cmp(y) < 0), impl.OpDone},
				{impl.OpSame, whole(a), whole(b), yesNo(x.Cmp(y) == 0), impl.OpDone},
			})
			if b == 0 {
				continue
			}
			q, m := new(big.Int).QuoRem(x, y, new(big.Int))
			tryOps(t, []opCase{
				{impl.OpDiv, whole(a), whole(b), whole(wrapped(q)), impl.OpDone},
				{impl.OpMod, whole(a), whole(b), whole(wrapped(m)), impl.OpDone},
			})
		}
	}
}

// done is what an op answers that must not be refused.
func done(t *testing.T, op int, a, b impl.Val) impl.Val {
	t.Helper()
	v, code := impl.ValOp(op, a, b)
	if code != impl.OpDone {
		t.Fatal("refused", op, a, b, code)
	}
	return v
}

func TestSumsAndProductsTurnAbout(t *testing.T) {
	right := rightValues()
	for _, op := range []int{impl.OpAdd, impl.OpMul} {
		for _, a := range right {
			for _, b := range right {
				if a.Kind != b.Kind || a.Kind == impl.KBool {
					continue
				}
				if ab, ba := done(t, op, a, b), done(t, op, b, a); !same(ab, ba) {
					t.Fatal("turned about", op, a, b, ab, ba)
				}
			}
		}
		for _, a := range someInts {
			for _, b := range someInts {
				for _, c := range someInts {
					left := done(t, op, done(t, op, whole(a), whole(b)), whole(c))
					right := done(t, op, whole(a), done(t, op, whole(b), whole(c)))
					if !same(left, right) {
						t.Fatal("put together", op, a, b, c, left, right)
					}
				}
			}
		}
	}
}

func TestQuotientTimesDivisorAndRest(t *testing.T) {
	for _, a := range someInts {
		for _, b := range someInts {
			if b == 0 {
				continue
			}
			q, m := done(t, impl.OpDiv, whole(a), whole(b)), done(t, impl.OpMod, whole(a), whole(b))
			back := done(t, impl.OpAdd, done(t, impl.OpMul, q, whole(b)), m)
			if !same(back, whole(a)) {
				t.Error("back", a, b, q, m, back)
			}
			if m.I != 0 && (m.I < 0) != (a < 0) {
				t.Error("sign of what is left", a, b, m)
			}
		}
	}
}

func TestFourQuarterTurnsLeadBack(t *testing.T) {
	quarter := pair(0, 1)
	for _, x := range someFloats {
		for _, y := range someFloats {
			if x-x != 0 || y-y != 0 {
				continue
			}
			once := done(t, impl.OpMul, pair(x, y), quarter)
			if yes := done(t, impl.OpSame, once, pair(-y, x)); yes.I != 1 {
				t.Error("one turn", x, y, once)
			}
			v := pair(x, y)
			for i := 0; i < 4; i++ {
				v = done(t, impl.OpMul, v, quarter)
			}
			if yes := done(t, impl.OpSame, v, pair(x, y)); yes.I != 1 {
				t.Error("four turns", x, y, v)
			}
		}
	}
}
