package tests

import (
	"slices"
	"strings"
	"testing"

	"loop.example/g00070/impl"
)

// plantAt is the node of a right tree, with all below it, as a plant.
func plantAt(x impl.Tree, at int) *plant {
	n := x.Nodes[at]
	p := leaf(n.Kind, n.Text, n.I)
	for _, kid := range n.Kids {
		p.kids = append(p.kids, plantAt(x, kid))
	}
	return p
}

func plantsIn(x impl.Tree) []*plant {
	var tops []*plant
	for _, top := range x.Tops {
		tops = append(tops, plantAt(x, top))
	}
	return tops
}

// plainFold folds a tree by the chapter's words: it puts what one operation
// comes to in its place, the one that is found first, until none is found.
func plainFold(x impl.Tree) impl.Tree {
	tops := plantsIn(x)
	for slices.ContainsFunc(tops, foldsOne) {
	}
	return treeOf(tops...)
}

func foldsOne(p *plant) bool {
	if now := comesTo(p); now != nil {
		*p = *now
		return true
	}
	return slices.ContainsFunc(p.kids, foldsOne)
}

// comesTo is the leaf in the place of an operation of leaves, or none where it
// stays.
func comesTo(p *plant) *plant {
	for _, kid := range p.kids {
		if kid.kind != impl.NInt && kid.kind != impl.NYesNo {
			return nil
		}
	}
	var now *plant
	switch p.kind {
	case impl.NTurn:
		now = turnedLeaf(p.i, p.kids[0])
	case impl.NOp:
		if a, b := p.kids[0], p.kids[1]; a.kind == b.kind && a.kind == impl.NInt {
			now = wholeOp(p.i, a.i, b.i)
		} else if a.kind == b.kind {
			now = yesNoOp(p.i, a.i == 1, b.i == 1)
		}
	}
	if now != nil && now.kind == impl.NInt && (now.i < 0 || now.i > 999999999999999) {
		return nil
	}
	return now
}

func turnedLeaf(op int, a *plant) *plant {
	switch {
	case op == impl.TurnNeg && a.kind == impl.NInt:
		return wholeLeaf(-a.i)
	case op == impl.TurnNot && a.kind == impl.NYesNo:
		return yesLeaf(1 - a.i)
	}
	return nil
}

func wholeOp(op, a, b int) *plant {
	switch op {
	case impl.OpAdd:
		return wholeLeaf(a + b)
	case impl.OpSub:
		return wholeLeaf(a - b)
	case impl.OpMul:
		return wholeLeaf(a * b)
	case impl.OpLess:
		return yesLeaf(countIf(a < b))
	case impl.OpSame:
		return yesLeaf(countIf(a == b))
	}
	switch {
	case op == impl.OpDiv && b != 0:
		return wholeLeaf(a / b)
	case op == impl.OpMod && b != 0:
		return wholeLeaf(a % b)
	}
	return nil
}

func yesNoOp(op int, a, b bool) *plant {
	switch op {
	case impl.OpSame:
		return yesLeaf(countIf(a == b))
	case impl.OpAnd:
		return yesLeaf(countIf(a && b))
	case impl.OpOr:
		return yesLeaf(countIf(a || b))
	}
	return nil
}

// foldIs asks what a tree is folded into, and for what holds of all folding.
func foldIs(t *testing.T, x impl.Tree, want impl.Tree) {
	t.Helper()
	was := cloneTree(x)
	y, ok := impl.Fold(x)
	if !ok || !sameTree(y, want) {
		t.Fatalf("Fold of %v: %v %v, not %v", firstNodes(was), firstNodes(y), ok, firstNodes(want))
	}
	if !sameTree(x, was) {
		t.Fatalf("Fold has written into %v: %v", firstNodes(was), firstNodes(x))
	}
	if !impl.TreeOk(y) || !impl.TreeSame(y, want) {
		t.Fatalf("Fold of %v is not right: %v", firstNodes(x), firstNodes(y))
	}
	if again, ok := impl.Fold(y); !ok || !sameTree(again, want) {
		t.Fatalf("folded twice: %v, not %v", firstNodes(again), firstNodes(want))
	}
}

// folded is for texts, which no Check is asked about.
func folded(t *testing.T, text, want string) {
	t.Helper()
	x := parsedTree(t, text)
	foldIs(t, x, parsedTree(t, want))
	foldIs(t, x, plainFold(x))
}

// folds is for expressions, in pairs: what is folded, and into what.
func folds(t *testing.T, list [][2]string) {
	t.Helper()
	for _, e := range list {
		folded(t, asValue(e[0]), asValue(e[1]))
	}
}

// stays is for expressions in which nothing is folded.
func stays(t *testing.T, list ...string) {
	t.Helper()
	for _, e := range list {
		folded(t, asValue(e), asValue(e))
	}
}

func noTree(x impl.Tree) bool { return len(x.Nodes) == 0 && len(x.Tops) == 0 }

// notFolded asks that what hangs on TreeOk alone refuses a tree.
func notFolded(t *testing.T, what string, x impl.Tree) {
	t.Helper()
	was := cloneTree(x)
	if y, ok := impl.Fold(x); ok || !noTree(y) {
		t.Errorf("%s: Fold: %v %v", what, firstNodes(y), ok)
	}
	if sizes := impl.Sizes(x); len(sizes) != 0 {
		t.Errorf("%s: Sizes: %v", what, sizes)
	}
	if !sameTree(x, was) {
		t.Errorf("%s: written into %v: %v", what, firstNodes(was), firstNodes(x))
	}
}

// notPruned asks that what hangs on Check and on a name is refused.
func notPruned(t *testing.T, what string, r impl.Reg, x impl.Tree, name string) {
	t.Helper()
	wasReg, was := cloneReg(r), cloneTree(x)
	if names := impl.Reaches(r, x, name); len(names) != 0 {
		t.Errorf("%s: Reaches of %q: %q", what, name, names)
	}
	if y, ok := impl.Prune(r, x, name); ok || !noTree(y) {
		t.Errorf("%s: Prune of %q: %v %v", what, name, firstNodes(y), ok)
	}
	if !sameTree(x, was) || !sameReg(r, wasReg) {
		t.Errorf("%s: written into an argument", what)
	}
}

func sameReg(a, b impl.Reg) bool {
	return slices.Equal(a.Comps, b.Comps) && slices.Equal(a.Ress, b.Ress) && slices.Equal(a.Evts, b.Evts)
}

// pruneIs asks for the tops, by their numbers, that one comes to and for that
// one, which is the last of them; and for what holds of all pruning.
func pruneIs(t *testing.T, r impl.Reg, x impl.Tree, name string, kept []int) {
	t.Helper()
	wasReg, was := cloneReg(r), cloneTree(x)
	var left []*plant
	var names []string
	for _, i := range kept {
		left = append(left, plantAt(x, x.Tops[i]))
		names = append(names, x.Nodes[x.Tops[i]].Text)
	}
	want := treeOf(left...)
	text, _ := impl.Print(x)
	if got := impl.Reaches(r, x, name); !slices.Equal(got, names[:len(names)-1]) {
		t.Fatalf("Reaches of %s: %q, not %q: %s", name, got, names[:len(names)-1], text)
	}
	y, ok := impl.Prune(r, x, name)
	if !ok || !sameTree(y, want) {
		t.Fatalf("Prune of %s: %v %v, not %q: %s", name, firstNodes(y), ok, names, text)
	}
	if !sameTree(x, was) || !sameReg(r, wasReg) {
		t.Fatalf("written into an argument: %s", text)
	}
	if code, node := impl.Check(r, y); !impl.TreeOk(y) || code != impl.ChkDone {
		t.Fatalf("Prune of %s may not run: %d %d: %s", name, code, node, text)
	}
	if again, ok := impl.Prune(r, y, name); !ok || !sameTree(again, want) {
		t.Fatalf("Prune of %s twice: %v %v: %s", name, firstNodes(again), ok, text)
	}
	if got := impl.Reaches(r, y, name); !slices.Equal(got, names[:len(names)-1]) {
		t.Fatalf("Reaches of %s behind Prune: %q, not %q: %s", name, got, names[:len(names)-1], text)
	}
}

// reaches is for texts of checkReg, a top each. The names are of those that the
// named one comes to; what is left is held against a text of these alone, too.
func reaches(t *testing.T, tops []string, name string, names ...string) {
	t.Helper()
	x := checked(t, strings.Join(tops, "\n"))
	var kept []int
	var left []string
	for i, text := range tops {
		if top := strings.Fields(text)[1]; top == name || slices.Contains(names, top) {
			kept, left = append(kept, i), append(left, text)
		}
	}
	pruneIs(t, checkReg(), x, name, kept)
	if got := impl.Reaches(checkReg(), x, name); !slices.Equal(got, names) {
		t.Errorf("Reaches of %s: %q, not %q", name, got, names)
	}
	y, _ := impl.Prune(checkReg(), x, name)
	if !sameTree(y, parsedTree(t, strings.Join(left, " "))) {
		t.Errorf("Prune of %s is not %q: %v", name, left, y)
	}
}

// sizesAre asks for the nodes of each top, and that they are all nodes.
func sizesAre(t *testing.T, x impl.Tree, want ...int) {
	t.Helper()
	was := cloneTree(x)
	sizes := impl.Sizes(x)
	if !slices.Equal(sizes, want) {
		t.Errorf("Sizes of %v: %v, not %v", firstNodes(x), sizes, want)
	}
	sum := 0
	for _, n := range sizes {
		sum += n
	}
	if sum != len(x.Nodes) || len(sizes) != len(x.Tops) {
		t.Errorf("%v are not all nodes of %v", sizes, firstNodes(x))
	}
	if !sameTree(x, was) {
		t.Errorf("Sizes has written into %v: %v", firstNodes(was), firstNodes(x))
	}
}

// countedSizes counts the nodes of each top from the top down.
func countedSizes(x impl.Tree) []int {
	var sizes []int
	for _, p := range plantsIn(x) {
		sizes = append(sizes, len(plantsOf(p)))
	}
	return sizes
}

// smaller is a system with what it is folded into and what is left of it, both
// ways about, too.
func smaller(t *testing.T, r impl.Reg, x impl.Tree, name string) []impl.Tree {
	t.Helper()
	small, okFold := impl.Fold(x)
	few, okPrune := impl.Prune(r, x, name)
	prunedSmall, okBoth := impl.Prune(r, small, name)
	smallPruned, okToo := impl.Fold(few)
	if !okFold || !okPrune || !okBoth || !okToo || !sameTree(prunedSmall, smallPruned) {
		text, _ := impl.Print(x)
		t.Fatalf("folded and pruned, of %s: %v %v %v %v: %s", name, okFold, okPrune, okBoth, okToo, text)
	}
	return []impl.Tree{small, few, prunedSmall}
}

// meansTheSame asks that a system means at these fuels what it meant: for the
// meaning and for the machine, and by its effect. It answers the run with the
// most fuel.
func meansTheSame(t *testing.T, r impl.Reg, x impl.Tree, name string, s impl.State, fuels []int) impl.Done {
	t.Helper()
	trees := smaller(t, r, x, name)
	e, _ := impl.Effects(r, x, name)
	text, _ := impl.Print(x)
	for i, y := range trees {
		if other, ok := impl.Effects(r, y, name); !ok || effText(other) != effText(e) {
			t.Fatalf("form %d of %s touches %s, not %s: %s", i, name, effText(other), effText(e), text)
		}
		p, ok := impl.Compile(r, y, name)
		if !ok {
			t.Fatalf("form %d of %s is not compiled: %s", i, name, text)
		}
		for _, fuel := range append([]int{impl.MaxFuel}, fuels...) {
			if fuel < 0 || fuel > impl.MaxFuel {
				continue
			}
			want := impl.Mean(r, x, name, s, fuel)
			if d := impl.Mean(r, y, name, s, fuel); !sameDone(d, want) {
				t.Fatalf("form %d of %s with the fuel %d: %s\nhave %s\nwant %s", i, name, fuel, text, doneText(d), doneText(want))
			}
			if d := impl.Machine(r, p, s, fuel); !sameDone(d, want) {
				t.Fatalf("form %d of %s, by the machine, with the fuel %d: %s\nhave %s\nwant %s", i, name, fuel, text, doneText(d), doneText(want))
			}
		}
	}
	return impl.Mean(r, x, name, s, impl.MaxFuel)
}
