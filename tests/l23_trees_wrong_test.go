package tests

import (
	"slices"
	"testing"

	"loop.example/g00070/impl"
)

// rightSmall is a tree that may run, in which something is folded and pruned.
func rightSmall(t *testing.T) impl.Tree {
	t.Helper()
	x := checked(t, "fn f(n int) int { return n + (1 + 2); } fn g() int { return 3; } system s { $Score = f(2 * 2); if not yes { do f(1); } } system t { }")
	pruneIs(t, checkReg(), x, "s", []int{0, 2})
	foldIs(t, x, parsedTree(t, "fn f(n int) int { return n + 3; } fn g() int { return 3; } system s { $Score = f(4); if no { do f(1); } } system t { }"))
	sizesAre(t, x, 9, 4, 14, 2)
	return x
}

// refusedBy asks that each of the functions refuses a tree that is not right.
func refusedBy(t *testing.T, what string, x impl.Tree) {
	t.Helper()
	if impl.TreeOk(x) {
		t.Fatalf("%s: it is right: %v", what, firstNodes(x))
	}
	notFolded(t, what, x)
	for _, name := range []string{"s", "f", ""} {
		notPruned(t, what, checkReg(), x, name)
	}
}

func TestSmallerOfWrongTreesByHand(t *testing.T) {
	x := rightSmall(t)
	n := len(x.Nodes)
	change := func(what string, step func(y *impl.Tree)) {
		y := cloneTree(x)
		step(&y)
		refusedBy(t, what, y)
	}
	for i := range x.Nodes {
		for _, wrong := range []int{-1, leastInt, n, n + 1, mostInt, i} {
			change("a kid more that is none", func(y *impl.Tree) { y.Nodes[i].Kids = append(y.Nodes[i].Kids, wrong) })
			if len(x.Nodes[i].Kids) > 0 {
				change("a kid that is none", func(y *impl.Tree) { y.Nodes[i].Kids[0] = wrong })
			}
		}
		if kids := x.Nodes[i].Kids; len(kids) > 0 {
			change("a kid twice", func(y *impl.Tree) { y.Nodes[i].Kids = append(y.Nodes[i].Kids, kids[0]) })
			change("a node that is in no top", func(y *impl.Tree) { y.Nodes[i].Kids = y.Nodes[i].Kids[1:] })
		}
		for _, kind := range []int{0, -1, 35, 36, leastInt, mostInt} {
			change("a kind that is none", func(y *impl.Tree) { y.Nodes[i].Kind = kind })
		}
		for _, number := range []int{-1, leastInt, 1000000000000000, mostInt} {
			change("a number out of range", func(y *impl.Tree) { y.Nodes[i].I = number })
		}
		change("a text that is none", func(y *impl.Tree) { y.Nodes[i].Text += " 1" })
	}
	for i := range x.Tops {
		for _, wrong := range []int{-1, leastInt, n, mostInt, 0, x.Tops[i] - 1} {
			change("a top that is none", func(y *impl.Tree) { y.Tops[i] = wrong })
		}
		change("a top less", func(y *impl.Tree) { y.Tops = slices.Delete(y.Tops, i, i+1) })
		change("a top twice", func(y *impl.Tree) { y.Tops = slices.Insert(y.Tops, i, y.Tops[i]) })
	}
	change("tops from behind", func(y *impl.Tree) { slices.Reverse(y.Tops) })
	change("no tops", func(y *impl.Tree) { y.Tops = nil })
	change("no nodes", func(y *impl.Tree) { y.Nodes = nil })
	change("a node more", func(y *impl.Tree) { y.Nodes = append(y.Nodes, impl.Node{Kind: impl.NInt}) })
	for _, y := range []impl.Tree{
		{Tops: []int{0}}, {Nodes: []impl.Node{{}}}, {Nodes: []impl.Node{{}}, Tops: []int{0}}, {Nodes: []impl.Node{{Kind: impl.NInt}}, Tops: []int{0}},
		{Nodes: []impl.Node{{Kind: impl.NSystem, Text: "s", Kids: []int{0}}}, Tops: []int{0}}, {Nodes: []impl.Node{{Kind: impl.NOp, I: 1}}, Tops: []int{0}},
		{Nodes: make([]impl.Node, 1000000), Tops: make([]int, 1000000)}, {Tops: make([]int, 1000000)},
	} {
		refusedBy(t, "by hand", y)
	}
}

// Operations with another number of kids, or of no op.
func TestSmallerOfWrongOperations(t *testing.T) {
	one, two := wholeLeaf(1), yesLeaf(1)
	for _, e := range []*plant{
		opPlant(0, one, one), opPlant(10, one, one), opPlant(-1, one, one), turnPlant(0, one), turnPlant(7, two), turnPlant(-1, two),
		{kind: impl.NOp, i: impl.OpAdd}, {kind: impl.NOp, i: impl.OpAdd, kids: []*plant{one}}, {kind: impl.NOp, i: impl.OpAdd, kids: []*plant{one, one, one}},
		{kind: impl.NTurn, i: impl.TurnNot}, {kind: impl.NTurn, i: impl.TurnNot, kids: []*plant{two, two}}, {kind: impl.NOp, text: "x", i: impl.OpAdd, kids: []*plant{one, one}}, {kind: impl.NTurn, text: "x", i: impl.TurnNot, kids: []*plant{two}},
		opPlant(impl.OpAdd, one, wholeLeaf(-1)), opPlant(impl.OpAdd, wholeLeaf(1000000000000000), one), opPlant(impl.OpAdd, leaf(impl.NInt, "1", 1), one), opPlant(impl.OpAnd, two, yesLeaf(2)), turnPlant(impl.TurnNot, yesLeaf(-1)),
		turnPlant(impl.TurnNeg, wholeLeaf(-1)), turnPlant(impl.TurnNot, leaf(impl.NYesNo, "yes", 1)), opPlant(impl.OpAdd, one, grown(impl.NKill)), opPlant(impl.OpAdd, one, blockPlant()), turnPlant(impl.TurnNeg, leaf(impl.NName, "a", 0)),
	} {
		refusedBy(t, "a wrong operation", treeOf(systemPlant("s", named(impl.NSetRes, "Score", e))))
		refusedBy(t, "a wrong operation", treeOf(systemPlant("t"), systemPlant("s", named(impl.NSetRes, "Score", opPlant(impl.OpMul, one, e)))))
		refusedBy(t, "a wrong operation", treeOf(systemPlant("s"), systemPlant("t", named(impl.NSetRes, "Score", e))))
	}
}

func TestPruneByWrongRegs(t *testing.T) {
	x := rightSmall(t)
	for _, r := range wrongRegs() {
		for _, name := range []string{"s", "f", "t", ""} {
			notPruned(t, "a wrong Reg", r, x, name)
			notPruned(t, "a wrong Reg", r, impl.Tree{}, name)
			notPruned(t, "a wrong Reg and a wrong tree", r, impl.Tree{Tops: []int{0}}, name)
		}
	}
	// right ones that have not the names, or not the kinds
	for _, r := range []impl.Reg{{}, {Comps: checkReg().Ress}, {Ress: []impl.Decl{decl("Score", impl.KReal)}}, {Evts: []impl.Decl{decl("Score", impl.KInt)}}} {
		for _, name := range []string{"s", "f", "t", ""} {
			notPruned(t, "another Reg", r, x, name)
		}
	}
	pruneIs(t, impl.Reg{Ress: []impl.Decl{decl("Score", impl.KInt)}}, x, "s", []int{0, 2})
	y := parsedTree(t, "fn f() int { return 1; } system s { do f(); }")
	for _, r := range rightRegs() {
		pruneIs(t, r, y, "s", []int{0, 1})
	}
}

// A fault of each code, ahead of what is named, in it, in what it comes to, and
// behind it: nothing is told of any top.
func TestPruneOfTreesThatMayNotRun(t *testing.T) {
	codes := map[int]int{}
	for _, c := range []struct {
		fault string
		code  int
	}{
		{"system q { } system q { }", impl.ChkTwice}, {"fn q(a int, a int) int { return 1; }", impl.ChkTwice}, {"system q { let a = 1; let a = 2; }", impl.ChkTwice},
		{"system q { x = 1; }", impl.ChkName}, {"system q { $Nope = 1; }", impl.ChkName}, {"system q { do nope(); }", impl.ChkName}, {"fn q() int { return q(); }", impl.ChkName}, {"system q { do s(); }", impl.ChkName}, {"system q { do q(); }", impl.ChkName},
		{"fn q() int { return z(); } fn z() int { return 1; }", impl.ChkName},
		{"system q { $Score = yes; }", impl.ChkKind}, {"fn q() int { return yes; }", impl.ChkKind}, {"system q { if 1 { } }", impl.ChkKind}, {"system q { $Score = 1 + yes; }", impl.ChkKind},
		{"system q { kill; }", impl.ChkPlace}, {"system q { return 1; }", impl.ChkPlace}, {"fn q() int { }", impl.ChkPlace}, {"fn q() int { each with Hp { } return 1; }", impl.ChkPlace},
		{"fn r() int { return 1; } system q { do r(1); }", impl.ChkArgs}, {"fn r(a int) int { return a; } system q { do r(); }", impl.ChkArgs},
	} {
		const right = " fn f() int { return 1; } system s { do f(); } "
		for _, text := range []string{c.fault + right, right + c.fault, "fn f() int { return 1; } " + c.fault + " system s { do f(); }"} {
			x := parsedTree(t, text)
			code, _ := impl.Check(checkReg(), x)
			if code != c.code {
				t.Errorf("Check of %q: %d, not %d", text, code, c.code)
			}
			codes[code]++
			for _, name := range []string{"f", "s", "q", "r", "z", "nope", ""} {
				notPruned(t, text, checkReg(), x, name)
			}
			sizesAre(t, x, countedSizes(x)...)
			foldIs(t, x, plainFold(x))
		}
	}
	if len(codes) != impl.ChkArgs-impl.ChkBad {
		t.Error("not all codes were met:", codes)
	}
}
