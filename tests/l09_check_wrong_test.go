package tests

import (
	"testing"

	"loop.example/g00070/impl"
)

type faultCase struct {
	text string
	code int
	kind int
	nth  int
}

func allFaulty(t *testing.T, list []faultCase) {
	t.Helper()
	for _, c := range list {
		faulty(t, c.text, c.code, c.kind, c.nth)
	}
}

// inEach puts statements into the block of an NEach with Hp, Mp and Mass,
// without On. Its NNames are the first four of the tree.
func inEach(statements string) string {
	return inSystem("each with Hp, Mp, Mass without On { " + statements + " }")
}

// Each fault of the rows of the tops, alone and with each other.
func TestFaultsOfTops(t *testing.T) {
	f := "fn f(a int) int { return a; } "
	allFaulty(t, []faultCase{
		{f + "fn f(b int) int { return b; }", impl.ChkTwice, impl.NFn, 1},
		{f + "fn f(b int, b int) int { return b; }", impl.ChkTwice, impl.NFn, 1},
		{f + "fn f(b int) int { }", impl.ChkTwice, impl.NFn, 1},
		{f + "fn f(b int) real { return b; }", impl.ChkTwice, impl.NFn, 1},
		{f + "fn f(b int) int { return c; }", impl.ChkTwice, impl.NFn, 1},
		{"fn f(b int, b int) int { return b; }", impl.ChkTwice, impl.NParam, 1},
		{"fn f(b int, b int) int { }", impl.ChkTwice, impl.NParam, 1},
		{"fn f(b int, b int) real { return b; }", impl.ChkTwice, impl.NParam, 1},
		{"fn f(b int, b int) real { return c; }", impl.ChkTwice, impl.NParam, 1},
		{"fn f(b int) int { c = 1; }", impl.ChkName, impl.NStore, 0},
		{"fn f(b int) int { return c; }", impl.ChkName, impl.NLocal, 0},
		{"fn f(b int) real { c = 1; return b; }", impl.ChkName, impl.NStore, 0},
		{"fn f(b int) real { return b; }", impl.ChkKind, impl.NFn, 0},
		{"fn f(b int) real { return b; b = 1; }", impl.ChkPlace, impl.NReturn, 0},
		{f + "system f { }", impl.ChkTwice, impl.NSystem, 0},
		{f + "system f { x = 1; }", impl.ChkTwice, impl.NSystem, 0},
		{f + "system s { x = 1; }", impl.ChkName, impl.NStore, 0},
	})
}

func TestFaultsInTwoTops(t *testing.T) {
	allFaulty(t, []faultCase{
		{"system s { x = 1; } system s { }", impl.ChkName, impl.NStore, 0},
		{"system s { } system s { x = 1; } system t { y = 1; }", impl.ChkTwice, impl.NSystem, 1},
		{"system s { $Score = yes; } system t { $Nope = 1; }", impl.ChkKind, impl.NSetRes, 0},
		{"system s { $Nope = 1; } system t { $Score = yes; }", impl.ChkName, impl.NSetRes, 0},
		{"fn f() int { } fn g() int { return yes; }", impl.ChkPlace, impl.NFn, 0},
		{"fn f() int { return yes; } fn g() int { }", impl.ChkKind, impl.NFn, 0},
		{"fn f() int { return yes; } system s { return 1; }", impl.ChkKind, impl.NFn, 0},
		{"system s { kill; } fn f(a int, a int) int { return 1; }", impl.ChkPlace, impl.NKill, 0},
		{"fn f(a int) int { return a; } system s { do f(); } system t { do f(yes); }", impl.ChkArgs, impl.NCall, 0},
		{"fn f(a int) int { return a; } system s { do f(yes); } system t { do f(); }", impl.ChkKind, impl.NCall, 0},
		// a function that has a fault is told ahead of who calls it
		{"fn f() int { return yes; } system s { $Over = f(); }", impl.ChkKind, impl.NFn, 0},
	})
}

// Each fault of the rows of the expressions, alone and with each other, and
// beside one of an operand.
func TestFaultsOfExpressions(t *testing.T) {
	f := "fn f(a int, b bool) int { return a; } "
	allFaulty(t, []faultCase{
		{inSystem("let x = y;"), impl.ChkName, impl.NLocal, 0},
		{inSystem("let x = .Hp;"), impl.ChkPlace, impl.NComp, 0},
		{inSystem("let x = .Nope;"), impl.ChkPlace, impl.NComp, 0},
		{inEach("let x = .Nope;"), impl.ChkName, impl.NComp, 0},
		{inEach("let x = .On;"), impl.ChkPlace, impl.NComp, 0},
		{inEach("let x = .Pos;"), impl.ChkPlace, impl.NComp, 0},
		{inSystem("let x = $Nope;"), impl.ChkName, impl.NRes, 0},
		{f + inSystem("let x = g(1, yes);"), impl.ChkName, impl.NCall, 0},
		{f + inSystem("let x = g(1, y);"), impl.ChkName, impl.NLocal, 1},
		{f + inSystem("let x = f(1);"), impl.ChkArgs, impl.NCall, 0},
		{f + inSystem("let x = f(yes);"), impl.ChkArgs, impl.NCall, 0},
		{f + inSystem("let x = f(1, yes, 1);"), impl.ChkArgs, impl.NCall, 0},
		{f + inSystem("let x = f();"), impl.ChkArgs, impl.NCall, 0},
		{f + inSystem("let x = f(y);"), impl.ChkName, impl.NLocal, 1},
		{f + inSystem("let x = f(yes, yes);"), impl.ChkKind, impl.NCall, 0},
		{f + inSystem("let x = f(1, 1);"), impl.ChkKind, impl.NCall, 0},
		{f + inSystem("let x = f(yes, 1);"), impl.ChkKind, impl.NCall, 0},
		{f + inSystem("let x = f(yes, y);"), impl.ChkName, impl.NLocal, 1},
		{f + inSystem("let x = f(f(1), f(yes, yes));"), impl.ChkArgs, impl.NCall, 0},
		{f + inSystem("let x = f(f(1, 1), f(1));"), impl.ChkKind, impl.NCall, 0},
		{f + inSystem("do f(1);"), impl.ChkArgs, impl.NCall, 0},
		{f + inSystem("do f(yes, yes);"), impl.ChkKind, impl.NCall, 0},
		{inSystem("do f(yes, yes);"), impl.ChkName, impl.NCall, 0},
		{inSystem("let x = 1 + yes;"), impl.ChkKind, impl.NOp, 0},
		{inSystem("let x = (1 + yes) + (2 + y);"), impl.ChkKind, impl.NOp, 0},
		{inSystem("let x = (1 + 1) + (yes + $Nope);"), impl.ChkName, impl.NRes, 0},
		{inSystem("let x = (1 + y) + (2 + yes);"), impl.ChkName, impl.NLocal, 0},
		{inSystem("let x = 1.5 % 2.5;"), impl.ChkKind, impl.NOp, 0},
		{inSystem("let x = not 1;"), impl.ChkKind, impl.NTurn, 0},
		{inSystem("let x = not (1 + yes);"), impl.ChkKind, impl.NOp, 0},
		{inSystem("let x = re(not 1);"), impl.ChkKind, impl.NTurn, 0},
		{inSystem("let x = pair(1, 2);"), impl.ChkKind, impl.NPair, 0},
		{inSystem("let x = pair(1, y);"), impl.ChkName, impl.NLocal, 0},
		{inSystem("let x = pair(1.5, pair(1.5, 2));"), impl.ChkKind, impl.NPair, 0},
	})
}

func TestFaultsOfPick(t *testing.T) {
	allFaulty(t, []faultCase{
		{inSystem("let x = pick(1 of Hp);"), impl.ChkPlace, impl.NPick, 0},
		{inSystem("let x = pick(yes of Hp);"), impl.ChkPlace, impl.NPick, 0},
		{inSystem("let x = pick(y of Hp);"), impl.ChkPlace, impl.NPick, 0},
		{inSystem("let x = pick(1 of Nope);"), impl.ChkPlace, impl.NPick, 0},
		{inSystem("let x = pick(1 of Hp, Mass);"), impl.ChkPlace, impl.NPick, 0},
		{inEach("let x = pick(y of Hp);"), impl.ChkName, impl.NLocal, 0},
		{inEach("let x = pick(y of Nope);"), impl.ChkName, impl.NLocal, 0},
		{inEach("let x = pick(yes of Hp);"), impl.ChkKind, impl.NPick, 0},
		{inEach("let x = pick(1.5 of Mass);"), impl.ChkKind, impl.NPick, 0},
		{inEach("let x = pick(yes of Nope);"), impl.ChkKind, impl.NPick, 0},
		{inEach("let x = pick(yes of On);"), impl.ChkKind, impl.NPick, 0},
		{inEach("let x = pick(yes of Hp, Mass);"), impl.ChkKind, impl.NPick, 0},
		{inEach("let x = pick(1 of Nope);"), impl.ChkName, impl.NName, 4},
		{inEach("let x = pick(1 of Hp, Nope);"), impl.ChkName, impl.NName, 5},
		{inEach("let x = pick(1 of Hp, Score);"), impl.ChkName, impl.NName, 5},
		{inEach("let x = pick(1 of Hp, Hit);"), impl.ChkName, impl.NName, 5},
		{inEach("let x = pick(1 of On);"), impl.ChkPlace, impl.NName, 4},
		{inEach("let x = pick(1 of Hp, On);"), impl.ChkPlace, impl.NName, 5},
		{inEach("let x = pick(1 of Hp, Pos);"), impl.ChkPlace, impl.NName, 5},
		{inEach("let x = pick(1 of Hp, Mass);"), impl.ChkKind, impl.NName, 5},
		{inEach("let x = pick(1 of Hp, Mp, Mass, Mp);"), impl.ChkKind, impl.NName, 6},
		{inEach("let x = pick(1 of Mass, Hp, Mp);"), impl.ChkKind, impl.NName, 5},
		// two of its names
		{inEach("let x = pick(1 of Nope, On);"), impl.ChkName, impl.NName, 4},
		{inEach("let x = pick(1 of On, Nope);"), impl.ChkPlace, impl.NName, 4},
		{inEach("let x = pick(1 of Hp, Nope, Mass);"), impl.ChkName, impl.NName, 5},
		{inEach("let x = pick(1 of Hp, Mass, Nope);"), impl.ChkKind, impl.NName, 5},
		{inEach("let x = pick(1 of Hp, Mass, On);"), impl.ChkKind, impl.NName, 5},
		{inEach("let x = pick(1 of Hp, On, Mass);"), impl.ChkPlace, impl.NName, 5},
		// within one another
		{inEach("let x = pick(pick(1 of Mass) of Nope);"), impl.ChkKind, impl.NPick, 1},
		{inEach("let x = pick(pick(yes of Hp) of Nope);"), impl.ChkKind, impl.NPick, 0},
		{inEach("let x = pick(pick(1 of On) of Nope);"), impl.ChkPlace, impl.NName, 4},
	})
	checked(t, inEach("let x = pick(pick(1 of Hp, Mp) of Mass, Mass);"))
}

// Each fault of the rows of what is stored, alone, with each other, and beside
// one of the value.
func TestFaultsOfStores(t *testing.T) {
	allFaulty(t, []faultCase{
		{inSystem("let a = 1; let a = b;"), impl.ChkName, impl.NLocal, 0},
		{inSystem("let a = 1; let a = 1 + yes;"), impl.ChkKind, impl.NOp, 0},
		{inSystem("let a = 1; let a = .Hp;"), impl.ChkPlace, impl.NComp, 0},
		{inSystem("a = 1;"), impl.ChkName, impl.NStore, 0},
		{inSystem("a = b;"), impl.ChkName, impl.NLocal, 0},
		{inSystem("let a = 1; a = yes;"), impl.ChkKind, impl.NStore, 0},
		{inSystem("let a = 1; a = 1.0;"), impl.ChkKind, impl.NStore, 0},
		{inSystem("let a = 1; a = yes + 1;"), impl.ChkKind, impl.NOp, 0},
		{inSystem(".Hp = 1;"), impl.ChkPlace, impl.NSetComp, 0},
		{inSystem(".Nope = 1;"), impl.ChkPlace, impl.NSetComp, 0},
		{inSystem(".Hp = yes;"), impl.ChkPlace, impl.NSetComp, 0},
		{inSystem(".Hp = a;"), impl.ChkPlace, impl.NSetComp, 0},
		{inSystem(".Nope = a;"), impl.ChkPlace, impl.NSetComp, 0},
		{inEach(".Nope = 1;"), impl.ChkName, impl.NSetComp, 0},
		{inEach(".Nope = a;"), impl.ChkName, impl.NLocal, 0},
		{inEach(".On = yes;"), impl.ChkPlace, impl.NSetComp, 0},
		{inEach(".Pos = yes;"), impl.ChkPlace, impl.NSetComp, 0},
		{inEach(".Pos = a;"), impl.ChkName, impl.NLocal, 0},
		{inEach(".Pos = 1 + yes;"), impl.ChkKind, impl.NOp, 0},
		{inEach(".Hp = yes;"), impl.ChkKind, impl.NSetComp, 0},
		{inEach(".Hp = .Mass;"), impl.ChkKind, impl.NSetComp, 0},
		{inEach(".Hp = .Pos;"), impl.ChkPlace, impl.NComp, 0},
		{inSystem("$Nope = 1;"), impl.ChkName, impl.NSetRes, 0},
		{inSystem("$Nope = a;"), impl.ChkName, impl.NLocal, 0},
		{inSystem("$Score = yes;"), impl.ChkKind, impl.NSetRes, 0},
		{inSystem("$Score = a;"), impl.ChkName, impl.NLocal, 0},
		{inSystem("emit Nope 1;"), impl.ChkName, impl.NEmit, 0},
		{inSystem("emit Nope a;"), impl.ChkName, impl.NLocal, 0},
		{inSystem("emit Hit yes;"), impl.ChkKind, impl.NEmit, 0},
		{inSystem("emit Hit 1 + yes;"), impl.ChkKind, impl.NOp, 0},
		{inSystem("put Hp = 1;"), impl.ChkPlace, impl.NPut, 0},
		{inSystem("put Nope = 1;"), impl.ChkPlace, impl.NPut, 0},
		{inSystem("put Hp = yes;"), impl.ChkPlace, impl.NPut, 0},
		{inSystem("put Hp = a;"), impl.ChkPlace, impl.NPut, 0},
		{inEach("put Nope = 1;"), impl.ChkName, impl.NPut, 0},
		{inEach("put Nope = a;"), impl.ChkName, impl.NLocal, 0},
		{inEach("put Pos = 1;"), impl.ChkKind, impl.NPut, 0},
		{inEach("put Hp = 1 + yes;"), impl.ChkKind, impl.NOp, 0},
		{inSystem("drop Hp;"), impl.ChkPlace, impl.NDrop, 0},
		{inSystem("drop Nope;"), impl.ChkPlace, impl.NDrop, 0},
		{inEach("drop Nope;"), impl.ChkName, impl.NDrop, 0},
		{inSystem("kill;"), impl.ChkPlace, impl.NKill, 0},
		{inSystem("return a;"), impl.ChkPlace, impl.NReturn, 0},
		{inSystem("return 1 + yes;"), impl.ChkPlace, impl.NReturn, 0},
	})
}

// The rows of statements with blocks, and of NSpawn.
func TestFaultsOfBlocks(t *testing.T) {
	allFaulty(t, []faultCase{
		{inSystem("if 1 { }"), impl.ChkKind, impl.NIf, 0},
		{inSystem("if 1 { a = 1; }"), impl.ChkKind, impl.NIf, 0},
		{inSystem("if 1 { } else { a = 1; }"), impl.ChkKind, impl.NIf, 0},
		{inSystem("if a { b = 1; }"), impl.ChkName, impl.NLocal, 0},
		{inSystem("if yes { a = 1; } else { kill; }"), impl.ChkName, impl.NStore, 0},
		{inSystem("if yes { } else { kill; }"), impl.ChkPlace, impl.NKill, 0},
		{inSystem("loop yes { }"), impl.ChkKind, impl.NLoop, 0},
		{inSystem("loop 1.5 { a = 1; }"), impl.ChkKind, impl.NLoop, 0},
		{inSystem("loop a { b = 1; }"), impl.ChkName, impl.NLocal, 0},
		{inSystem("loop 1 { b = 1; }"), impl.ChkName, impl.NStore, 0},
		{inSystem("each with Nope { }"), impl.ChkName, impl.NName, 0},
		{inSystem("each with Hp, Nope { }"), impl.ChkName, impl.NName, 1},
		{inSystem("each with Hp without Nope { }"), impl.ChkName, impl.NName, 1},
		{inSystem("each with Hp, Score { }"), impl.ChkName, impl.NName, 1},
		{inSystem("each with Hp without Hit { }"), impl.ChkName, impl.NName, 1},
		{inSystem("each with Nope, Nope { }"), impl.ChkName, impl.NName, 0},
		{inSystem("each with Hp, Hp without Nope { }"), impl.ChkTwice, impl.NName, 1},
		{inSystem("each with Hp, Nope without Hp { }"), impl.ChkName, impl.NName, 1},
		{inSystem("each with Hp without Hp, Nope { }"), impl.ChkTwice, impl.NName, 1},
		{inSystem("each with Hp without Nope, Hp { }"), impl.ChkName, impl.NName, 1},
		{inSystem("each with Hp, Hp { a = 1; }"), impl.ChkTwice, impl.NName, 1},
		{inSystem("each with Nope { .Nope = 1; }"), impl.ChkName, impl.NName, 0},
		{inEach("each with Nope { }"), impl.ChkPlace, impl.NEach, 0},
		{inEach("each with Hp, Hp { }"), impl.ChkPlace, impl.NEach, 0},
		{inEach("each with Hp { a = 1; }"), impl.ChkPlace, impl.NEach, 0},
		{inSystem("hear Nope as h { }"), impl.ChkName, impl.NHear, 0},
		{inSystem("let h = 1; hear Nope as h { }"), impl.ChkName, impl.NHear, 0},
		{inSystem("hear Nope as h { a = 1; }"), impl.ChkName, impl.NHear, 0},
		{inSystem("hear Hit as h { h = yes; }"), impl.ChkKind, impl.NStore, 0},
		{inSystem("let h = 1; hear Went as h { h = yes; a = 1; }"), impl.ChkTwice, impl.NName, 0},
		{inSystem("hear Went as h { h = yes; h = 1; }"), impl.ChkKind, impl.NStore, 1},
		{inEach("hear Nope as h { }"), impl.ChkPlace, impl.NHear, 0},
		{inEach("let h = 1; hear Hit as h { }"), impl.ChkPlace, impl.NHear, 0},
		{inSystem("spawn(Nope = 1);"), impl.ChkName, impl.NCell, 0},
		{inSystem("spawn(Nope = a);"), impl.ChkName, impl.NLocal, 0},
		{inSystem("spawn(Hp = 1, Hp = 2);"), impl.ChkTwice, impl.NCell, 1},
		{inSystem("spawn(Hp = 1, Mp = 3, Hp = 2);"), impl.ChkTwice, impl.NCell, 2},
		{inSystem("spawn(Hp = 1, Hp = yes);"), impl.ChkTwice, impl.NCell, 1},
		{inSystem("spawn(Hp = 1, Hp = a);"), impl.ChkName, impl.NLocal, 0},
		{inSystem("spawn(Hp = yes);"), impl.ChkKind, impl.NCell, 0},
		{inSystem("spawn(Hp = yes, Hp = 1);"), impl.ChkKind, impl.NCell, 0},
		{inSystem("spawn(Hp = yes, Mp = a);"), impl.ChkKind, impl.NCell, 0},
		{inSystem("spawn(Nope = 1, Nope = 1);"), impl.ChkName, impl.NCell, 0},
		{inSystem("spawn(Nope = 1, Mp = a);"), impl.ChkName, impl.NCell, 0},
		{inSystem("spawn(Nope = yes, Hp = yes);"), impl.ChkName, impl.NCell, 0},
		{inSystem("spawn(Hp = 1, Hp = 1, Nope = a);"), impl.ChkTwice, impl.NCell, 1},
		{inSystem("spawn(Hp = .Hp);"), impl.ChkPlace, impl.NComp, 0},
	})
}

// A name of one sort where one of another sort is wanted.
func TestNamesOfAnotherSort(t *testing.T) {
	allFaulty(t, []faultCase{
		{inSystem("$Hp = 1;"), impl.ChkName, impl.NSetRes, 0}, {inSystem("$Hit = 1;"), impl.ChkName, impl.NSetRes, 0},
		{inSystem("let x = $Hp;"), impl.ChkName, impl.NRes, 0}, {inSystem("let x = $Hit;"), impl.ChkName, impl.NRes, 0},
		{inSystem("emit Hp 1;"), impl.ChkName, impl.NEmit, 0}, {inSystem("emit Score 1;"), impl.ChkName, impl.NEmit, 0},
		{inSystem("hear Hp as h { }"), impl.ChkName, impl.NHear, 0}, {inSystem("hear Score as h { }"), impl.ChkName, impl.NHear, 0},
		{inEach(".Score = 1;"), impl.ChkName, impl.NSetComp, 0}, {inEach(".Hit = 1;"), impl.ChkName, impl.NSetComp, 0},
		{inEach("let x = .Score;"), impl.ChkName, impl.NComp, 0}, {inEach("let x = .Hit;"), impl.ChkName, impl.NComp, 0},
		{inEach("put Score = 1;"), impl.ChkName, impl.NPut, 0}, {inEach("put Hit = 1;"), impl.ChkName, impl.NPut, 0},
		{inEach("drop Score;"), impl.ChkName, impl.NDrop, 0}, {inEach("drop Hit;"), impl.ChkName, impl.NDrop, 0},
		{inSystem("spawn(Score = 1);"), impl.ChkName, impl.NCell, 0}, {inSystem("spawn(Hit = 1);"), impl.ChkName, impl.NCell, 0},
		{inSystem("each with Score { }"), impl.ChkName, impl.NName, 0}, {inSystem("each with Hit { }"), impl.ChkName, impl.NName, 0},
		{inSystem("each with Hp without Score { }"), impl.ChkName, impl.NName, 1}, {inSystem("each with Hp without Hit { }"), impl.ChkName, impl.NName, 1},
		{inEach("let x = pick(1 of Score);"), impl.ChkName, impl.NName, 4}, {inEach("let x = pick(1 of Hit);"), impl.ChkName, impl.NName, 4},
		// a local is none of them, nor are they locals
		{inSystem("let a = 1; $a = 1;"), impl.ChkName, impl.NSetRes, 0}, {inEach("let a = 1; .a = 1;"), impl.ChkName, impl.NSetComp, 0},
		{inSystem("let a = 1; emit a 1;"), impl.ChkName, impl.NEmit, 0}, {inSystem("Score = 1;"), impl.ChkName, impl.NStore, 0},
		{inEach("Hp = 1;"), impl.ChkName, impl.NStore, 0}, {inSystem("hp = 1;"), impl.ChkName, impl.NStore, 0}, {inSystem("$score = 1;"), impl.ChkName, impl.NSetRes, 0},
	})
}

// allBad asks for what all three tell of arguments that are not right.
func allBad(t *testing.T, what string, r impl.Reg, x impl.Tree) {
	t.Helper()
	if code, node := impl.Check(r, x); code != impl.ChkBad || node != -1 {
		t.Errorf("%s: Check tells %d %d", what, code, node)
	}
	for _, node := range []int{leastInt, -1, 0, 1, 2, len(x.Nodes) - 1, len(x.Nodes), mostInt} {
		if kind := impl.KindOf(r, x, node); kind != 0 {
			t.Errorf("%s: KindOf %d tells %d", what, node, kind)
		}
	}
}

func TestCheckWrongArguments(t *testing.T) {
	right := parsedTree(t, "system s { let a = 1; }")
	fault := parsedTree(t, "system s { let a = b; }")
	wrong := cloneTree(right)
	wrong.Nodes[0].I = -1
	wrongs := []impl.Tree{wrong, {Tops: []int{0}}, {Nodes: []impl.Node{{}}}, {Nodes: right.Nodes}, {Nodes: make([]impl.Node, impl.MaxNodes+1)}}
	for i := range right.Nodes {
		x := cloneTree(right)
		x.Nodes[i].Kind = 0
		wrongs = append(wrongs, x)
	}
	for _, r := range wrongRegs() {
		allBad(t, "a wrong Reg", r, right)
		allBad(t, "a wrong Reg", r, fault)
		allBad(t, "a wrong Reg", r, impl.Tree{})
		for _, x := range wrongs {
			allBad(t, "a wrong Reg and a wrong tree", r, x)
		}
		if impl.TopOf(right, "s") != nthOf(right, impl.NSystem, 0) {
			t.Error("TopOf has no Reg")
		}
	}
	for _, x := range wrongs {
		allBad(t, "a wrong tree", checkReg(), x)
		for _, name := range []string{"s", "", "a"} {
			if top := impl.TopOf(x, name); top != -1 {
				t.Error("the top of a wrong tree:", name, top)
			}
		}
	}
}

func TestKindsOutsideOfTheTree(t *testing.T) {
	x := checked(t, wholeText)
	for _, node := range []int{leastInt, -2, -1, len(x.Nodes), len(x.Nodes) + 1, mostInt} {
		if kind := impl.KindOf(checkReg(), x, node); kind != 0 {
			t.Error("KindOf", node, kind)
		}
	}
	// no kind in a tree that has a fault, not even ahead of the fault
	y := parsedTree(t, "system s { let a = 1; let b = a; let c = d; }")
	for node := range y.Nodes {
		if kind := impl.KindOf(checkReg(), y, node); kind != 0 {
			t.Error("KindOf in a tree with a fault", node, kind)
		}
	}
}

func TestTopOf(t *testing.T) {
	x := parsedTree(t, "fn f(p int) int { let a = 1; return g(a); } system s { hear Hit as h { } do f(q); } system f { } fn s() bool { }")
	for name, want := range map[string]int{
		"f": nthOf(x, impl.NFn, 0), "s": nthOf(x, impl.NSystem, 0), "g": -1, "a": -1, "p": -1, "h": -1, "q": -1, "Hit": -1, "": -1,
		"F": -1, "fn": -1, "ff": -1, " f": -1, "f\x00": -1,
	} {
		if top := impl.TopOf(x, name); top != want {
			t.Errorf("TopOf %q: %d, not %d", name, top, want)
		}
	}
	// whether the tree may run is not asked
	for _, text := range []string{"system s { kill; }", "system r { } system s { x = y; } system s { }"} {
		y := parsedTree(t, text)
		top := impl.TopOf(y, "s")
		if top < 0 || y.Nodes[top].Kind != impl.NSystem || y.Nodes[top].Text != "s" || y.Tops[0] != top && y.Tops[1] != top {
			t.Error("TopOf", text, top)
		}
	}
}
