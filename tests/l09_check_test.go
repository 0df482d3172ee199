package tests

import (
	"slices"
	"strings"
	"testing"

	"loop.example/g00070/impl"
)

func TestCheckConstants(t *testing.T) {
	codes := []int{impl.ChkDone, impl.ChkBad, impl.ChkTwice, impl.ChkName, impl.ChkKind, impl.ChkPlace, impl.ChkArgs}
	for i, code := range codes {
		if code != i {
			t.Error("code", i, code)
		}
	}
}

func TestCheckNothing(t *testing.T) {
	for _, r := range rightRegs() {
		if code, node := impl.Check(r, impl.Tree{}); code != impl.ChkDone || node != -1 {
			t.Error("a tree without nodes:", code, node)
		}
		if code, node := impl.Check(r, parsedTree(t, "system s { } system t { }")); code != impl.ChkDone || node != -1 {
			t.Error("systems that do nothing:", code, node)
		}
	}
	if impl.KindOf(checkReg(), impl.Tree{}, 0) != 0 || impl.TopOf(impl.Tree{}, "s") != -1 {
		t.Error("a tree without nodes has a kind or a top")
	}
}

// kindsAre asks for the kinds of all expressions of a text, in the order of
// their numbers, and for 0 at every other node.
func kindsAre(t *testing.T, text string, want ...int) {
	t.Helper()
	x := checked(t, text)
	var got []int
	for i, n := range x.Nodes {
		kind := impl.KindOf(checkReg(), x, i)
		if n.Kind <= impl.NPick {
			got = append(got, kind)
		} else if kind != 0 {
			t.Errorf("%q: node %d is no expression, but of kind %d", text, i, kind)
		}
	}
	if !slices.Equal(got, want) {
		t.Errorf("kinds of %q: %v, not %v", text, got, want)
	}
}

const (
	kI = impl.KInt
	kR = impl.KReal
	kP = impl.KPair
	kB = impl.KBool
)

func TestKindsOfExpressions(t *testing.T) {
	kindsAre(t, "system s { }")
	kindsAre(t, "system s { let a = 1; }", kI)
	kindsAre(t, "system s { let a = 1.5; let b = yes; let c = no; }", kR, kB, kB)
	kindsAre(t, "system s { let a = 1; let b = a; let c = b; }", kI, kI, kI)
	kindsAre(t, "system s { let a = $Score; let b = $Wind; let c = $Home; let d = $Over; }", kI, kR, kP, kB)
	kindsAre(t, "system s { each with Hp, Mass, Pos, On { let a = .Hp; let b = .Mass; let c = .Pos; let d = .On; } }", kI, kR, kP, kB)
	kindsAre(t, "system s { let a = 1 + 2 * 3 < 4 and not (5.0 == 6.0); }", kI, kI, kI, kI, kI, kI, kB, kR, kR, kB, kB, kB)
	kindsAre(t, "system s { let a = pair(1.5, -real(2)); let b = size(a) + re(a) * im(-a); }", kR, kI, kR, kR, kP, kP, kR, kP, kR, kP, kP, kR, kR, kR)
	kindsAre(t, "system s { each with Mass, Heat { let a = pick(1 of Mass, Heat, Mass); } }", kI, kR)
	kindsAre(t, "system s { each with Pos { let a = pick(-1 of Pos) == .Pos; } }", kI, kI, kP, kP, kB)
	kindsAre(t, "fn f(a int, b bool) pair { return pair(real(a), 0.0); } system s { let a = f(1, yes); do f(2, a == a); }",
		kI, kR, kR, kP, kI, kB, kP, kI, kP, kP, kB, kP)
	kindsAre(t, "fn f() int { return 1; } fn g(a real) bool { return f() == 2; } system s { if g(1.0) { } loop f() { } }", kI, kI, kI, kB, kR, kB, kI)
	kindsAre(t, "system s { hear Burn as h { let a = h; } hear Went as h { let a = h; } hear Move as h { emit Move h; } }", kR, kB, kP)
	kindsAre(t, "fn f(a int, b real, c pair, d bool) bool { let e = a; let g = b; let h = c; return d; }", kI, kR, kP, kB)
}

func TestKindsOfStatements(t *testing.T) {
	kindsAre(t, "system s { let a = 1; a = 2; $Score = a; $Over = yes; emit Hit a; emit Went no; }", kI, kI, kI, kB, kI, kB)
	kindsAre(t, "system s { if yes { let a = 1; } else { let a = 1.5; } loop 3 { let a = yes; } }", kB, kI, kR, kI, kB)
	kindsAre(t, "system s { spawn(); spawn(Hp = 1, Mass = 1.5, Pos = pair(1.0, 2.0), On = no); }", kI, kR, kR, kR, kP, kB)
	kindsAre(t, "system s { each with Hp, On without Pos { .Hp = 1; .On = .Hp < 2; put Pos = $Home; put Hp = 3; drop Pos; drop Hp; kill; } }", kI, kI, kI, kB, kP, kI)
	kindsAre(t, "fn f() bool { return yes; } system s { do f(); each with Hp { if f() { kill; } } }", kB, kB, kB)
}

// Each op with operands of every two kinds.
func TestOpsOfEveryKind(t *testing.T) {
	values := []string{kI: "$Score", kR: "$Wind", kP: "$Home", kB: "$Over"}
	for op := impl.OpAdd; op <= impl.OpOr; op++ {
		for a := kI; a <= kB; a++ {
			for b := kI; b <= kB; b++ {
				text := inSystem("let x = " + values[a] + " " + opSigns[op] + " " + values[b] + ";")
				kind := opResult(op, a, b)
				if kind == 0 {
					faulty(t, text, impl.ChkKind, impl.NOp, 0)
				} else {
					kindsAre(t, text, a, b, kind)
				}
			}
		}
	}
	for op := impl.TurnNeg; op <= impl.TurnSize; op++ {
		for a := kI; a <= kB; a++ {
			text := inSystem("let x = " + turnSigns[op] + " (" + values[a] + ");")
			kind := turnResult(op, a)
			if kind == 0 {
				faulty(t, text, impl.ChkKind, impl.NTurn, 0)
			} else {
				kindsAre(t, text, a, kind)
			}
		}
	}
	for a := kI; a <= kB; a++ {
		for b := kI; b <= kB; b++ {
			text := inSystem("let x = pair(" + values[a] + ", " + values[b] + ");")
			if a == kR && b == kR {
				kindsAre(t, text, a, b, kP)
			} else {
				faulty(t, text, impl.ChkKind, impl.NPair, 0)
			}
		}
	}
}

// What the checker takes an op for is what the op does with values.
func TestOpsAreForWhatTheyDo(t *testing.T) {
	values := []string{kI: "$Score", kR: "$Wind", kP: "$Home", kB: "$Over"}
	for a := kI; a <= kB; a++ {
		for b := kI; b <= kB; b++ {
			for op := impl.OpAdd; op <= impl.OpOr; op++ {
				x := parsedTree(t, inSystem("let x = "+values[a]+" "+opSigns[op]+" "+values[b]+";"))
				kind := impl.KindOf(checkReg(), x, 2)
				for _, u := range rightValues() {
					for _, v := range rightValues() {
						if u.Kind != a || v.Kind != b {
							continue
						}
						if w, code := impl.ValOp(op, u, v); (code == impl.OpKind) != (kind == 0) || code == impl.OpDone && w.Kind != kind {
							t.Fatal("op", op, u, v, w, code, kind)
						}
					}
				}
			}
		}
	}
}

// wholeText has every kind of node, and may run.
const wholeText = `
fn half(n int) int { return n / 2; }
fn far(p pair, from pair) bool {
	let way = p - from;
	let most = 4.5;
	if most < $Wind { most = $Wind * 2.0; }
	return most < size(way);
}
fn next(n int, up bool) int {
	loop half(n) { $Score = $Score + 1; }
	if up and not (n == 0) { n = n + 1; } else { n = n - 1; emit Went up; }
	spawn(Hp = n, On = up);
	return n;
}
system go {
	let seen = 0;
	each with Hp, Pos, Mp without On {
		.Hp = next(.Hp, yes) % 7;
		.Pos = .Pos * pair(0.0, 1.0) + $Home;
		if far(.Pos, $Home) or .Hp < pick(seen of Hp, Mp) {
			put On = far(.Pos, -.Pos);
			drop Mass;
			emit Move .Pos;
		} else {
			kill;
		}
		seen = seen + 1;
	}
	hear Hit as much {
		$Score = $Score - much;
		let felt = much;
	}
	do half(seen);
	$Over = seen == 0;
}
system rest { hear Burn as much { $Wind = im(pair(much, re($Home))) / real(3); } }
`

func TestWholeText(t *testing.T) {
	x := checked(t, wholeText)
	met := map[int]bool{}
	for _, n := range x.Nodes {
		met[n.Kind] = true
	}
	if len(met) != impl.NSystem {
		t.Error("the text has not every kind of node:", met)
	}
	for name, nth := range map[string]int{"half": 0, "far": 1, "next": 2} {
		if impl.TopOf(x, name) != nthOf(x, impl.NFn, nth) {
			t.Error("TopOf", name, impl.TopOf(x, name))
		}
	}
	if impl.TopOf(x, "go") != nthOf(x, impl.NSystem, 0) || impl.TopOf(x, "rest") != nthOf(x, impl.NSystem, 1) {
		t.Error("TopOf the systems", impl.TopOf(x, "go"), impl.TopOf(x, "rest"))
	}
}

func TestLocalsAndBlocks(t *testing.T) {
	for _, text := range []string{
		// in an inner block, whatever it is of, and behind one
		"let a = 1; if a == 1 { a = 2; if yes { let b = a; } } a = 3;",
		"let a = 1; if yes { a = 2; } else { a = 3; }",
		"let a = 1; loop a { a = a - 1; loop a { $Score = a; } }",
		"let a = 1; each with Hp { .Hp = a; a = .Hp; }",
		"let a = 1; hear Hit as h { a = a + h; } a = 4;",
		// one name in blocks of which none is in the other
		"if yes { let a = 1; } else { let a = 1.5; } let a = yes;",
		"if yes { let a = 1; } loop 2 { let a = no; } each with Hp { let a = 1.5; } hear Hit as h { let a = $Home; } let a = 1;",
		"hear Hit as a { } hear Went as a { let b = a and yes; } let a = 1; a = 2;",
		"each with Hp { let a = 1; if yes { let b = a; } let b = 1.5; }",
		"if yes { if yes { let a = 1; } let a = 2.5; a = 3.5; } let a = yes; a = no;",
		// names of other things
		"let Hp = 1.5; each with Hp { .Hp = 1; Hp = 2.5; }", "let Score = yes; Score = no; $Score = 1; hear Hit as Hit { emit Hit Hit; }",
		"let s = 1; s = s + s;", "hear Hit as s { s = 2; }",
	} {
		checked(t, inSystem(text))
	}
	for _, c := range []struct {
		text            string
		code, kind, nth int
	}{
		{"a = 1; let a = 1;", impl.ChkName, impl.NStore, 0},
		{"let a = a;", impl.ChkName, impl.NLocal, 0},
		{"let a = 1 + a;", impl.ChkName, impl.NLocal, 0},
		{"if yes { let a = 1; } a = 2;", impl.ChkName, impl.NStore, 0},
		{"if yes { let a = 1; } else { a = 2; }", impl.ChkName, impl.NStore, 0},
		{"if yes { a = 1; } else { let a = 2; }", impl.ChkName, impl.NStore, 0},
		{"if yes { if yes { let a = 1; } a = 2; }", impl.ChkName, impl.NStore, 0},
		{"loop 2 { let a = 1; } a = 2;", impl.ChkName, impl.NStore, 0},
		{"loop 2 { b = 2; let b = 1; }", impl.ChkName, impl.NStore, 0},
		{"each with Hp { let a = 1; } a = 2;", impl.ChkName, impl.NStore, 0},
		{"hear Hit as h { let a = 1; } a = 2;", impl.ChkName, impl.NStore, 0},
		{"hear Hit as h { } h = 2;", impl.ChkName, impl.NStore, 0},
		{"h = 2; hear Hit as h { }", impl.ChkName, impl.NStore, 0},
		{"hear Hit as h { } $Score = h;", impl.ChkName, impl.NLocal, 0},
		{"hear Hit as h { } hear Hit as g { h = 1; }", impl.ChkName, impl.NStore, 0},
		{"let a = Hp;", impl.ChkName, impl.NLocal, 0}, {"let a = Score;", impl.ChkName, impl.NLocal, 0}, {"let a = s;", impl.ChkName, impl.NLocal, 0},
		{"let a = 1; let a = 2;", impl.ChkTwice, impl.NLet, 1},
		{"let a = 1; let a = yes;", impl.ChkTwice, impl.NLet, 1},
		{"let a = 1; if yes { let a = 2; }", impl.ChkTwice, impl.NLet, 1},
		{"let a = 1; if yes { } else { let a = 2; }", impl.ChkTwice, impl.NLet, 1},
		{"let a = 1; loop 2 { if yes { let b = 1; let a = 2; } }", impl.ChkTwice, impl.NLet, 2},
		{"let a = 1; each with Hp { let a = 2; }", impl.ChkTwice, impl.NLet, 1},
		{"let a = 1; hear Hit as h { let a = 2; }", impl.ChkTwice, impl.NLet, 1},
		{"hear Hit as h { let h = 2; }", impl.ChkTwice, impl.NLet, 0},
		{"hear Hit as h { if yes { let h = 2; } }", impl.ChkTwice, impl.NLet, 0},
		{"let a = 1; hear Hit as a { }", impl.ChkTwice, impl.NName, 0},
		{"let a = 1; if yes { hear Hit as a { } }", impl.ChkTwice, impl.NName, 0},
		{"let a = 1; each with Hp { } hear Hit as a { }", impl.ChkTwice, impl.NName, 1},
	} {
		faulty(t, inSystem(c.text), c.code, c.kind, c.nth)
	}
}

func TestParametersAndFunctions(t *testing.T) {
	for _, text := range []string{
		"fn f(a int) int { a = a + 1; if yes { a = 2; } return a; }",
		"fn f(a int, b real, Hp pair, f bool) bool { return f; }",
		"fn f(a int) int { return a; } fn g(a real) real { return a; } system s { let a = yes; }",
		"fn f() int { return 1; } fn g() int { return f(); } fn h() int { return f() + g(); } system s { do h(); do f(); }",
		"fn f() int { return 1; } system s { do f(); } fn g() int { return f(); } system t { do g(); }",
		"fn f() int { return 1; } system s { let f = 2; $Score = f() + f; }",
		"fn Hp() int { return 1; } fn Score() real { return 1.5; } system Hit { each with Hp { .Hp = Hp(); } emit Hit $Score; $Wind = Score(); }",
		"fn f() bool { if yes { let a = 1; } let a = yes; return a; }",
	} {
		checked(t, text)
	}
	for _, c := range []struct {
		text            string
		code, kind, nth int
	}{
		{"fn f(a int, a int) int { return a; }", impl.ChkTwice, impl.NParam, 1},
		{"fn f(a int, b int, a real) int { return a; }", impl.ChkTwice, impl.NParam, 2},
		{"fn f(a int, b int, b int, a int) int { return 1; }", impl.ChkTwice, impl.NParam, 2},
		{"fn f(a int) int { let a = 1; return a; }", impl.ChkTwice, impl.NLet, 0},
		{"fn f(a int) int { loop 2 { let a = 1; } return a; }", impl.ChkTwice, impl.NLet, 0},
		{"fn f(a int) int { return b; }", impl.ChkName, impl.NLocal, 0},
		{"fn f(a int) int { return a; } fn g() int { return a; }", impl.ChkName, impl.NLocal, 1},
		{"fn f(a int) int { let b = 1; return a; } system s { b = 1; }", impl.ChkName, impl.NStore, 0},
		{"system s { let a = 1; } system t { a = 1; }", impl.ChkName, impl.NStore, 0},
		{"fn f(a int) int { return f(a); }", impl.ChkName, impl.NCall, 0},
		{"fn f() int { return g(); } fn g() int { return 1; }", impl.ChkName, impl.NCall, 0},
		{"system s { do f(); } fn f() int { return 1; }", impl.ChkName, impl.NCall, 0},
		{"system s { do s(); }", impl.ChkName, impl.NCall, 0},
		{"system s { } system t { do s(); }", impl.ChkName, impl.NCall, 0},
		{"system s { } fn f() int { return s(); }", impl.ChkName, impl.NCall, 0},
		{"fn f(a int) int { return a(); }", impl.ChkName, impl.NCall, 0},
		{"system s { let a = Hp(); }", impl.ChkName, impl.NCall, 0},
	} {
		faulty(t, c.text, c.code, c.kind, c.nth)
	}
}

func TestTopsTwice(t *testing.T) {
	fn, system := "fn f() int { return 1; } ", "system f { } "
	faulty(t, fn+fn, impl.ChkTwice, impl.NFn, 1)
	faulty(t, system+system, impl.ChkTwice, impl.NSystem, 1)
	faulty(t, fn+system, impl.ChkTwice, impl.NSystem, 0)
	faulty(t, system+fn, impl.ChkTwice, impl.NFn, 0)
	faulty(t, fn+"system s { }"+system, impl.ChkTwice, impl.NSystem, 1)
	faulty(t, fn+"fn g() int { return 1; } fn f(a real) bool { return yes; }", impl.ChkTwice, impl.NFn, 2)
	faulty(t, system+"system g { } system g { } "+system, impl.ChkTwice, impl.NSystem, 2)
}

func TestReturns(t *testing.T) {
	for _, text := range []string{
		"fn f() int { return 1; }", "fn f() real { return 1.5; }", "fn f() pair { return $Home; }", "fn f() bool { return no; }",
		"fn f() int { let a = 1; if yes { a = 2; } return a; }",
	} {
		checked(t, text)
	}
	for _, c := range []struct {
		text            string
		code, kind, nth int
	}{
		{"fn f() int { }", impl.ChkPlace, impl.NFn, 0},
		{"fn f() int { let a = 1; }", impl.ChkPlace, impl.NFn, 0},
		{"fn f() int { if yes { } else { } }", impl.ChkPlace, impl.NFn, 0},
		{"fn f() int { return 1; } fn g() int { do f(); }", impl.ChkPlace, impl.NFn, 1},
		{"fn f() int { return 1; let a = 1; }", impl.ChkPlace, impl.NReturn, 0},
		{"fn f() int { return 1; return 1; }", impl.ChkPlace, impl.NReturn, 0},
		{"fn f() int { if yes { return 1; } return 1; }", impl.ChkPlace, impl.NReturn, 0},
		{"fn f() int { if yes { return 1; } }", impl.ChkPlace, impl.NReturn, 0},
		{"fn f() int { if yes { } else { return 1; } }", impl.ChkPlace, impl.NReturn, 0},
		{"fn f() int { loop 1 { return 1; } }", impl.ChkPlace, impl.NReturn, 0},
		{"fn f() int { loop 1 { if yes { return 1; } } return 2; }", impl.ChkPlace, impl.NReturn, 0},
		{"system s { return 1; }", impl.ChkPlace, impl.NReturn, 0},
		{"system s { each with Hp { return 1; } }", impl.ChkPlace, impl.NReturn, 0},
		{"system s { hear Hit as h { return 1; } }", impl.ChkPlace, impl.NReturn, 0},
		{"fn f() int { return 1.5; }", impl.ChkKind, impl.NFn, 0},
		{"fn f() real { return 1; }", impl.ChkKind, impl.NFn, 0},
		{"fn f() pair { return yes; }", impl.ChkKind, impl.NFn, 0},
		{"fn f() bool { return $Home; }", impl.ChkKind, impl.NFn, 0},
		{"fn f(a real) int { let b = a; return b; }", impl.ChkKind, impl.NFn, 0},
	} {
		faulty(t, c.text, c.code, c.kind, c.nth)
	}
}

// What may stand in an NEach's block alone, and what may not stand in one.
func TestPlaces(t *testing.T) {
	about := []struct {
		text string
		kind int
	}{
		{"kill;", impl.NKill}, {"put Mass = 1.5;", impl.NPut}, {"put Hp = 1;", impl.NPut}, {"drop Mass;", impl.NDrop}, {"drop Hp;", impl.NDrop},
		{"$Score = .Hp;", impl.NComp}, {".Hp = 1;", impl.NSetComp}, {"$Score = pick(1 of Hp);", impl.NPick},
	}
	inside := []string{"each with Hp { @ }", "each with Hp { if yes { @ } }", "each with Hp { if yes { } else { @ } }", "each with Hp { loop 2 { if yes { @ } } }", "if yes { each with Mp, Hp { @ } }"}
	outside := []string{"@", "if yes { @ }", "each with Hp { } @", "if yes { each with Hp { } } else { @ }", "loop 2 { @ each with Hp { } }", "hear Hit as h { @ }"}
	for _, a := range about {
		for _, place := range inside {
			checked(t, inSystem(strings.Replace(place, "@", a.text, 1)))
		}
		for _, place := range outside {
			faulty(t, inSystem(strings.Replace(place, "@", a.text, 1)), impl.ChkPlace, a.kind, 0)
		}
		faulty(t, "fn f() int { "+a.text+" return 1; }", impl.ChkPlace, a.kind, 0)
		faulty(t, "fn f() int { if yes { "+a.text+" } return 1; }", impl.ChkPlace, a.kind, 0)
	}
	for _, a := range []struct {
		text string
		kind int
	}{{"each with Mp { }", impl.NEach}, {"hear Went as w { }", impl.NHear}} {
		for _, place := range []string{"@", "if yes { @ }", "loop 2 { @ }", "each with Hp { } @", "hear Hit as h { } @", "if yes { } else { if yes { @ } }"} {
			checked(t, inSystem(strings.Replace(place, "@", a.text, 1)))
		}
		// the inner one of two has the lesser number
		faulty(t, inSystem("each with Hp { "+a.text+" }"), impl.ChkPlace, a.kind, 0)
		faulty(t, inSystem("each with Hp { if yes { "+a.text+" } }"), impl.ChkPlace, a.kind, 0)
		faulty(t, inSystem("each with Hp { loop 2 { } if yes { } else { "+a.text+" } }"), impl.ChkPlace, a.kind, 0)
		faulty(t, inSystem("hear Hit as h { "+a.text+" }"), impl.ChkPlace, a.kind, 0)
		faulty(t, inSystem("hear Hit as h { loop 2 { "+a.text+" } }"), impl.ChkPlace, a.kind, 0)
		faulty(t, "fn f() int { "+a.text+" return 1; }", impl.ChkPlace, a.kind, 0)
		faulty(t, "fn f() int { if yes { "+a.text+" } return 1; }", impl.ChkPlace, a.kind, 0)
	}
	checked(t, inSystem("spawn(Hp = 1); each with Hp { spawn(Hp = .Hp); } hear Hit as h { spawn(Hp = h); }"))
	checked(t, "fn f() int { spawn(Hp = 1); emit Hit 2; $Score = 3; return 1; }")
}

func TestColumnsOfEach(t *testing.T) {
	checked(t, inSystem("each with Hp, Mp without On, Up { .Hp = .Mp; } each with On, Up without Hp { .On = .Up; }"))
	for _, c := range []struct {
		text            string
		code, kind, nth int
	}{
		{"each with Mp { $Score = .Hp; }", impl.ChkPlace, impl.NComp, 0},
		{"each with Mp { .Hp = 1; }", impl.ChkPlace, impl.NSetComp, 0},
		{"each with Mp { $Score = pick(1 of Hp); }", impl.ChkPlace, impl.NName, 1},
		{"each with Mp without Hp { $Score = .Hp; }", impl.ChkPlace, impl.NComp, 0},
		{"each with Mp without Hp { .Hp = 1; }", impl.ChkPlace, impl.NSetComp, 0},
		{"each with Mp without Hp { $Score = pick(1 of Mp, Hp); }", impl.ChkPlace, impl.NName, 3},
		{"each with Hp { } each with Mp { .Hp = 1; }", impl.ChkPlace, impl.NSetComp, 0},
		{"each with Mp { if yes { .Hp = 1; } } each with Hp { }", impl.ChkPlace, impl.NSetComp, 0},
		{"each with Hp, Hp { }", impl.ChkTwice, impl.NName, 1},
		{"each with Hp, Mp, On, Hp { }", impl.ChkTwice, impl.NName, 3},
		{"each with Hp without On, On { }", impl.ChkTwice, impl.NName, 2},
		{"each with Hp without On, Up, On { }", impl.ChkTwice, impl.NName, 3},
		{"each with Hp without Hp { }", impl.ChkTwice, impl.NName, 1},
		{"each with Hp, Mp without On, Mp { }", impl.ChkTwice, impl.NName, 3},
	} {
		faulty(t, inSystem(c.text), c.code, c.kind, c.nth)
	}
}

func TestCheckLimits(t *testing.T) {
	lets := func(n int) *plant {
		p := systemPlant("s")
		for i := range n {
			p.kids[0].kids = append(p.kids[0].kids, named(impl.NLet, longName(i), wholeLeaf(1)))
		}
		return p
	}
	most := (impl.MaxNodes - 2) / 2
	x := treeOf(lets(most))
	if code, node := impl.Check(checkReg(), x); code != impl.ChkDone || node != -1 || len(x.Nodes) != impl.MaxNodes {
		t.Error("most locals:", code, node, len(x.Nodes))
	}
	x.Nodes[2*most-1].Text = longName(0)
	if code, node := impl.Check(checkReg(), x); code != impl.ChkTwice || node != 2*most-1 {
		t.Error("the last local is the first one again:", code, node)
	}
	if code, node := impl.Check(checkReg(), treeOf(lets(most+1))); code != impl.ChkBad || node != -1 {
		t.Error("more than most nodes:", code, node)
	}
	deep := blockPlant(named(impl.NStore, "a", wholeLeaf(2)))
	for range (impl.MaxNodes - 7) / 3 {
		deep = blockPlant(grown(impl.NIf, yesLeaf(1), deep))
	}
	deep.kids = slices.Insert(deep.kids, 0, named(impl.NLet, "a", wholeLeaf(1)))
	x = treeOf(named(impl.NSystem, "s", deep))
	if code, node := impl.Check(checkReg(), x); code != impl.ChkDone || node != -1 || len(x.Nodes) < impl.MaxNodes-3 {
		t.Error("deep blocks:", code, node, len(x.Nodes))
	}
	sum := realLeaf("1.5")
	for range impl.MaxNodes - 5 {
		sum = turnPlant(impl.TurnNeg, sum)
	}
	x = treeOf(systemPlant("s", named(impl.NSetRes, "Wind", sum)))
	if code, node := impl.Check(checkReg(), x); code != impl.ChkDone || node != -1 || impl.KindOf(checkReg(), x, len(x.Nodes)-4) != impl.KReal {
		t.Error("deep signs:", code, node, len(x.Nodes))
	}
}

// longName is a name of its own for each number.
func longName(i int) string {
	b := []byte("aaaaaaaaaaaa")
	for at := range b {
		b[at] += byte(i % 26)
		i /= 26
	}
	return string(b)
}
