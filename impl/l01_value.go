package impl

import (
	"math"
	"strconv"
)

const (
	KInt = iota + 1
	KReal
	KPair
	KBool
)

const (
	OpAdd = iota + 1
	OpSub
	OpMul
	OpDiv
	OpMod
	OpLess
	OpSame
	OpAnd
	OpOr
)

const (
	OpDone = iota
	OpKind
	OpZero
)

const (
	TurnNeg = iota + 1
	TurnNot
	TurnRe
	TurnIm
	TurnReal
	TurnSize
)

const bigReal = 1 << 40
const textUnit = 1024

// Val is what stands in a cell.
type Val struct {
	Kind int
	I    int
	X    float64
	Y    float64
}

func ValOk(v Val) bool {
	switch v.Kind {
	case KInt:
		return plusZero(v.X) && plusZero(v.Y)
	case KReal:
		return v.I == 0 && plusZero(v.Y)
	case KPair:
		return v.I == 0
	case KBool:
		return (v.I == 0 || v.I == 1) && plusZero(v.X) && plusZero(v.Y)
	}
	return false
}

func ValZero(kind int) Val {
	if !isKind(kind) {
		return Val{}
	}
	return Val{Kind: kind}
}

func ValSame(a Val, b Val) bool {
	return a.Kind == b.Kind && a.I == b.I && sameFloat(a.X, b.X) && sameFloat(a.Y, b.Y)
}

func ValOp(op int, a Val, b Val) (Val, int) {
	if !ValOk(a) || !ValOk(b) || a.Kind != b.Kind {
		return Val{}, OpKind
	}
	switch a.Kind {
	case KInt:
		return intOp(op, a.I, b.I)
	case KReal:
		return realOp(op, a.X, b.X)
	case KPair:
		return pairOp(op, pairOf(a), pairOf(b))
	}
	return boolOp(op, a.I == 1, b.I == 1)
}

func ValTurn(op int, a Val) (Val, int) {
	if !ValOk(a) {
		return Val{}, OpKind
	}
	switch a.Kind {
	case KInt:
		return intTurn(op, a.I)
	case KReal:
		return realTurn(op, a.X)
	case KPair:
		return pairTurn(op, pairOf(a))
	}
	return boolTurn(op, a.I == 1)
}

func ValPair(a Val, b Val) (Val, bool) {
	if a.Kind != KReal || b.Kind != KReal || !ValOk(a) || !ValOk(b) {
		return Val{}, false
	}
	return pairVal(complex(a.X, b.X)), true
}

func ValText(v Val) string {
	if !ValOk(v) {
		return "?"
	}
	switch v.Kind {
	case KInt:
		return strconv.Itoa(v.I)
	case KReal:
		return realText(v.X)
	case KPair:
		return "(" + realText(v.X) + " " + realText(v.Y) + ")"
	}
	if v.I == 1 {
		return "yes"
	}
	return "no"
}

func intVal(n int) Val { return Val{Kind: KInt, I: n} }

func realVal(x float64) Val { return Val{Kind: KReal, X: x} }

func pairVal(c complex128) Val { return Val{Kind: KPair, X: real(c), Y: imag(c)} }

func boolVal(yes bool) Val {
	if yes {
		return Val{Kind: KBool, I: 1}
	}
	return Val{Kind: KBool}
}

func pairOf(v Val) complex128 { return complex(v.X, v.Y) }

func isKind(kind int) bool { return kind >= KInt && kind <= KBool }

// plusZero looks at the bits, for == takes -0 for 0.
func plusZero(x float64) bool { return math.Float64bits(x) == 0 }

func sameFloat(a, b float64) bool {
	if math.IsNaN(a) || math.IsNaN(b) {
		return math.IsNaN(a) && math.IsNaN(b)
	}
	return math.Float64bits(a) == math.Float64bits(b)
}

func intOp(op, a, b int) (Val, int) {
	switch op {
	case OpAdd:
		return intVal(a + b), OpDone
	case OpSub:
		return intVal(a - b), OpDone
	case OpMul:
		return intVal(a * b), OpDone
	case OpDiv, OpMod:
		return intShare(op, a, b)
	case OpLess:
		return boolVal(a < b), OpDone
	case OpSame:
		return boolVal(a == b), OpDone
	}
	return Val{}, OpKind
}

func intShare(op, a, b int) (Val, int) {
	if b == 0 {
		return Val{}, OpZero
	}
	if op == OpDiv {
		return intVal(a / b), OpDone
	}
	return intVal(a % b), OpDone
}

func realOp(op int, a, b float64) (Val, int) {
	switch op {
	case OpAdd:
		return realVal(a + b), OpDone
	case OpSub:
		return realVal(a - b), OpDone
	case OpMul:
		return realVal(a * b), OpDone
	case OpDiv:
		return realVal(a / b), OpDone
	case OpLess:
		return boolVal(a < b), OpDone
	case OpSame:
		return boolVal(a == b), OpDone
	}
	return Val{}, OpKind
}

func pairOp(op int, a, b complex128) (Val, int) {
	switch op {
	case OpAdd:
		return pairVal(a + b), OpDone
	case OpSub:
		return pairVal(a - b), OpDone
	case OpMul:
		return pairVal(pairProduct(a, b)), OpDone
	case OpSame:
		return boolVal(a == b), OpDone
	}
	return Val{}, OpKind
}

// pairProduct does not take Go's own product of complex numbers: only a
// conversion keeps a product and a sum from being rounded as one.
func pairProduct(a, b complex128) complex128 {
	re := float64(real(a)*real(b)) - float64(imag(a)*imag(b))
	im := float64(real(a)*imag(b)) + float64(imag(a)*real(b))
	return complex(re, im)
}

func boolOp(op int, a, b bool) (Val, int) {
	switch op {
	case OpSame:
		return boolVal(a == b), OpDone
	case OpAnd:
		return boolVal(a && b), OpDone
	case OpOr:
		return boolVal(a || b), OpDone
	}
	return Val{}, OpKind
}

func intTurn(op, a int) (Val, int) {
	switch op {
	case TurnNeg:
		return intVal(-a), OpDone
	case TurnReal:
		return realVal(float64(a)), OpDone
	}
	return Val{}, OpKind
}

func realTurn(op int, a float64) (Val, int) {
	if op == TurnNeg {
		return realVal(-a), OpDone
	}
	return Val{}, OpKind
}

func pairTurn(op int, a complex128) (Val, int) {
	switch op {
	case TurnNeg:
		return pairVal(-a), OpDone
	case TurnRe:
		return realVal(real(a)), OpDone
	case TurnIm:
		return realVal(imag(a)), OpDone
	case TurnSize:
		return realVal(pairSize(a)), OpDone
	}
	return Val{}, OpKind
}

// pairSize converts each product for the reason that pairProduct has.
func pairSize(a complex128) float64 {
	return float64(real(a)*real(a)) + float64(imag(a)*imag(a))
}

func boolTurn(op int, a bool) (Val, int) {
	if op == TurnNot {
		return boolVal(!a), OpDone
	}
	return Val{}, OpKind
}

func realText(x float64) string {
	switch {
	case math.IsNaN(x):
		return "nan"
	case x >= bigReal:
		return "big"
	case x <= -bigReal:
		return "-big"
	}
	return strconv.Itoa(int(x*textUnit)) + "/" + strconv.Itoa(textUnit)
}
