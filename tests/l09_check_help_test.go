package tests

import (
	"slices"
	"testing"

	"loop.example/g00070/impl"
)

// checkReg has columns, resources and streams of every kind, of columns two.
func checkReg() impl.Reg {
	return impl.Reg{
		Comps: []impl.Decl{
			decl("Hp", impl.KInt), decl("Mass", impl.KReal), decl("Pos", impl.KPair), decl("On", impl.KBool),
			decl("Mp", impl.KInt), decl("Heat", impl.KReal), decl("Dir", impl.KPair), decl("Up", impl.KBool),
		},
		Ress: []impl.Decl{decl("Score", impl.KInt), decl("Wind", impl.KReal), decl("Home", impl.KPair), decl("Over", impl.KBool)},
		Evts: []impl.Decl{decl("Hit", impl.KInt), decl("Burn", impl.KReal), decl("Move", impl.KPair), decl("Went", impl.KBool)},
	}
}

// namesOf is the names of a list that are of that kind.
func namesOf(list []impl.Decl, kind int) []string {
	var names []string
	for _, d := range list {
		if d.Kind == kind {
			names = append(names, d.Name)
		}
	}
	return names
}

// parsedTree is the tree of a text that must be right.
func parsedTree(t *testing.T, text string) impl.Tree {
	t.Helper()
	x, code, at := impl.Parse(text)
	if code != impl.ParDone {
		t.Fatalf("Parse(%q): %d %d", text, code, at)
	}
	return x
}

// nthOf is the number of the nth node (from 0 on) of a kind.
func nthOf(x impl.Tree, kind, nth int) int {
	for i, n := range x.Nodes {
		if n.Kind == kind {
			if nth == 0 {
				return i
			}
			nth--
		}
	}
	return -9
}

// checked asks that a text may run.
func checked(t *testing.T, text string) impl.Tree {
	t.Helper()
	x := parsedTree(t, text)
	if code, node := impl.Check(checkReg(), x); code != impl.ChkDone || node != -1 {
		t.Errorf("Check of %q: %d %d", text, code, node)
	}
	audited(t, checkReg(), x)
	return x
}

// faulty asks for a fault of the nth node of a kind.
func faulty(t *testing.T, text string, code, kind, nth int) {
	t.Helper()
	x := parsedTree(t, text)
	want := nthOf(x, kind, nth)
	if c, n := impl.Check(checkReg(), x); c != code || n != want {
		t.Errorf("Check of %q: %d %d, not %d %d", text, c, n, code, want)
	}
	audited(t, checkReg(), x)
}

// auditedFirst holds Check against an audit.
func auditedFirst(t *testing.T, r impl.Reg, x impl.Tree) (*audit, fault) {
	t.Helper()
	a := newAudit(r, x)
	want := a.first()
	if code, node := impl.Check(r, x); code != want.code || node != want.node {
		text, _ := impl.Print(x)
		t.Fatalf("Check: %d %d, not %d %d: %s", code, node, want.code, want.node, text)
	}
	return a, want
}

// audited holds Check and KindOf against an audit.
func audited(t *testing.T, r impl.Reg, x impl.Tree) fault {
	t.Helper()
	a, first := auditedFirst(t, r, x)
	for i := range x.Nodes {
		kind := 0
		if first.code == impl.ChkDone {
			kind = a.kindOf(i)
		}
		if got := impl.KindOf(r, x, i); got != kind {
			text, _ := impl.Print(x)
			t.Fatalf("KindOf node %d: %d, not %d: %s", i, got, kind, text)
		}
	}
	return first
}

// fault is a code and a node.
type fault struct {
	code int
	node int
}

// audit writes down all faults of a right tree in the order of the walk. What
// is seen at a node, and where it stands, is found from the node upwards.
type audit struct {
	r      impl.Reg
	t      impl.Tree
	above  []int
	kinds  map[int]int
	faults []fault
}

func newAudit(r impl.Reg, t impl.Tree) *audit {
	a := &audit{r: r, t: t, above: slices.Repeat([]int{-1}, len(t.Nodes)), kinds: map[int]int{}}
	for i, n := range t.Nodes {
		for _, kid := range n.Kids {
			a.above[kid] = i
		}
	}
	for _, top := range t.Tops {
		a.node(top)
	}
	return a
}

func (a *audit) first() fault {
	if len(a.faults) == 0 {
		return fault{impl.ChkDone, -1}
	}
	return a.faults[0]
}

func (a *audit) ask(wrong bool, code, node int) {
	if wrong {
		a.faults = append(a.faults, fault{code, node})
	}
}

// around is the numbers of the blocks of that kind of node in which a node
// stands, the innermost one first.
func (a *audit) around(node, kind int) []int {
	var list []int
	for up := a.above[node]; up >= 0; node, up = up, a.above[up] {
		if a.t.Nodes[up].Kind == kind && a.t.Nodes[node].Kind == impl.NBlock {
			list = append(list, up)
		}
	}
	return list
}

func (a *audit) topOf(node int) int {
	for a.above[node] >= 0 {
		node = a.above[node]
	}
	return node
}

// seen is the local of that name that is seen at a node, or -1.
func (a *audit) seen(node int, name string) int {
	for up := a.above[node]; up >= 0; node, up = up, a.above[up] {
		for _, kid := range a.t.Nodes[up].Kids {
			n := a.t.Nodes[kid]
			of := a.t.Nodes[up].Kind
			isLocal := of == impl.NBlock && n.Kind == impl.NLet || of == impl.NFn && n.Kind == impl.NParam || of == impl.NHear && n.Kind == impl.NName
			if isLocal && kid < node && n.Text == name {
				return kid
			}
		}
	}
	return -1
}

// find is the number of a name in the list of its sort, or -1.
func (a *audit) find(sort int, name string) int {
	return slices.IndexFunc(*listOf(&a.r, sort), func(d impl.Decl) bool { return d.Name == name })
}

func (a *audit) declKind(sort int, name string) int {
	if at := a.find(sort, name); at >= 0 {
		return (*listOf(&a.r, sort))[at].Kind
	}
	return 0
}

// fnAhead is the function of that name ahead of the top of a node, or -1.
func (a *audit) fnAhead(node int, name string) int {
	for _, top := range a.t.Tops {
		if top == a.topOf(node) {
			break
		}
		if a.t.Nodes[top].Kind == impl.NFn && a.t.Nodes[top].Text == name {
			return top
		}
	}
	return -1
}

// kindOf is the kind of an expression or a local, 0 of all else, and where it
// has none. It hangs on no walk.
func (a *audit) kindOf(node int) int {
	n := a.t.Nodes[node]
	if n.Kind > impl.NPick {
		return 0
	}
	if kind, ok := a.kinds[node]; ok {
		return kind
	}
	a.kinds[node] = a.plainKind(node, n)
	return a.kinds[node]
}

func (a *audit) localKind(local int) int {
	if local < 0 {
		return 0
	}
	switch n := a.t.Nodes[local]; n.Kind {
	case impl.NLet:
		return a.kindOf(n.Kids[0])
	case impl.NParam:
		return n.I
	}
	return a.declKind(impl.SortEvt, a.t.Nodes[a.above[local]].Text)
}

func (a *audit) plainKind(node int, n impl.Node) int {
	switch n.Kind {
	case impl.NInt:
		return impl.KInt
	case impl.NReal:
		return impl.KReal
	case impl.NYesNo:
		return impl.KBool
	case impl.NLocal:
		return a.localKind(a.seen(node, n.Text))
	case impl.NComp:
		return a.declKind(impl.SortComp, n.Text)
	case impl.NRes:
		return a.declKind(impl.SortRes, n.Text)
	case impl.NCall:
		if fn := a.fnAhead(node, n.Text); fn >= 0 {
			return a.t.Nodes[fn].I
		}
		return 0
	case impl.NOp:
		return opResult(n.I, a.kindOf(n.Kids[0]), a.kindOf(n.Kids[1]))
	case impl.NTurn:
		return turnResult(n.I, a.kindOf(n.Kids[0]))
	case impl.NPair:
		if a.kindOf(n.Kids[0]) == impl.KReal && a.kindOf(n.Kids[1]) == impl.KReal {
			return impl.KPair
		}
		return 0
	}
	return a.declKind(impl.SortComp, a.t.Nodes[n.Kids[1]].Text)
}

// opResult is the kind that an op makes of two kinds; 0 where it is not for
// them.
func opResult(op, a, b int) int {
	if a == 0 || a != b || !opIsFor(op, a) {
		return 0
	}
	if op >= impl.OpLess {
		return impl.KBool
	}
	return a
}

func turnResult(op, a int) int {
	if a == 0 || !turnIsFor(op, a) {
		return 0
	}
	if op >= impl.TurnRe {
		return impl.KReal
	}
	return a
}

// mayStand is the second column of the table.
func (a *audit) mayStand(node int) bool {
	n := a.t.Nodes[node]
	switch n.Kind {
	case impl.NComp, impl.NPick, impl.NSetComp, impl.NKill, impl.NPut, impl.NDrop:
		return len(a.around(node, impl.NEach)) > 0
	case impl.NEach, impl.NHear:
		return a.t.Nodes[a.topOf(node)].Kind == impl.NSystem && len(a.around(node, impl.NEach)) == 0 && len(a.around(node, impl.NHear)) == 0
	case impl.NReturn:
		block := a.above[node]
		kids := a.t.Nodes[block].Kids
		return a.t.Nodes[a.above[block]].Kind == impl.NFn && kids[len(kids)-1] == node
	}
	return true
}

// isWith tells whether the innermost NEach around has that column in its
// NWith.
func (a *audit) isWith(node int, name string) bool {
	list := a.around(node, impl.NEach)
	return len(list) > 0 && slices.Contains(a.texts(a.t.Nodes[a.t.Nodes[list[0]].Kids[0]].Kids), name)
}

func (a *audit) texts(nodes []int) []string {
	var list []string
	for _, i := range nodes {
		list = append(list, a.t.Nodes[i].Text)
	}
	return list
}

// node goes by the table: where it may stand, the kids, and what else its row
// says, as the row says it.
func (a *audit) node(node int) {
	n := a.t.Nodes[node]
	a.ask(!a.mayStand(node), impl.ChkPlace, node)
	switch n.Kind {
	case impl.NFn, impl.NSystem:
		a.top(node, n)
	case impl.NPick:
		a.node(n.Kids[0])
		a.ask(a.kindOf(n.Kids[0]) != impl.KInt, impl.ChkKind, node)
		for _, name := range n.Kids[1:] {
			text := a.t.Nodes[name].Text
			a.column(name, text)
			a.ask(a.declKind(impl.SortComp, text) != a.kindOf(node), impl.ChkKind, name)
		}
	case impl.NIf, impl.NLoop:
		a.node(n.Kids[0])
		wants := map[int]int{impl.NIf: impl.KBool, impl.NLoop: impl.KInt}
		a.ask(a.kindOf(n.Kids[0]) != wants[n.Kind], impl.ChkKind, node)
		a.nodes(n.Kids[1:])
	case impl.NEach:
		names := slices.Concat(a.t.Nodes[n.Kids[0]].Kids, a.t.Nodes[n.Kids[1]].Kids)
		for i, name := range names {
			text := a.t.Nodes[name].Text
			a.ask(a.find(impl.SortComp, text) < 0, impl.ChkName, name)
			a.ask(slices.Contains(a.texts(names[:i]), text), impl.ChkTwice, name)
		}
		a.node(n.Kids[2])
	case impl.NHear:
		a.ask(a.find(impl.SortEvt, n.Text) < 0, impl.ChkName, node)
		a.ask(a.seen(node, a.t.Nodes[n.Kids[0]].Text) >= 0, impl.ChkTwice, n.Kids[0])
		a.node(n.Kids[1])
	case impl.NSpawn:
		for i, cell := range n.Kids {
			c := a.t.Nodes[cell]
			a.node(c.Kids[0])
			a.ask(a.find(impl.SortComp, c.Text) < 0, impl.ChkName, cell)
			a.ask(slices.Contains(a.texts(n.Kids[:i]), c.Text), impl.ChkTwice, cell)
			a.ask(a.declKind(impl.SortComp, c.Text) != a.kindOf(c.Kids[0]), impl.ChkKind, cell)
		}
	default:
		a.nodes(n.Kids)
		a.behind(node, n)
	}
}

func (a *audit) nodes(list []int) {
	for _, i := range list {
		a.node(i)
	}
}

func (a *audit) column(node int, text string) {
	a.ask(a.find(impl.SortComp, text) < 0, impl.ChkName, node)
	a.ask(!a.isWith(node, text), impl.ChkPlace, node)
}

func (a *audit) top(node int, n impl.Node) {
	ahead := a.t.Tops[:slices.Index(a.t.Tops, node)]
	a.ask(slices.Contains(a.texts(ahead), n.Text), impl.ChkTwice, node)
	last := len(n.Kids) - 1
	for i, param := range n.Kids[:last] {
		a.ask(slices.Contains(a.texts(n.Kids[:i]), a.t.Nodes[param].Text), impl.ChkTwice, param)
	}
	a.node(n.Kids[last])
	if n.Kind == impl.NSystem {
		return
	}
	statements := a.t.Nodes[n.Kids[last]].Kids
	if len(statements) == 0 || a.t.Nodes[statements[len(statements)-1]].Kind != impl.NReturn {
		a.ask(true, impl.ChkPlace, node)
		return
	}
	back := a.t.Nodes[statements[len(statements)-1]]
	a.ask(a.kindOf(back.Kids[0]) != n.I, impl.ChkKind, node)
}

// behind is what the rows say that have nothing ahead of the kids' end.
func (a *audit) behind(node int, n impl.Node) {
	value := 0
	if len(n.Kids) > 0 {
		value = a.kindOf(n.Kids[0])
	}
	switch n.Kind {
	case impl.NLocal:
		a.ask(a.seen(node, n.Text) < 0, impl.ChkName, node)
	case impl.NComp:
		a.column(node, n.Text)
	case impl.NRes:
		a.ask(a.find(impl.SortRes, n.Text) < 0, impl.ChkName, node)
	case impl.NCall:
		a.call(node, n)
	case impl.NOp, impl.NTurn, impl.NPair:
		a.ask(a.kindOf(node) == 0, impl.ChkKind, node)
	case impl.NLet:
		a.ask(a.seen(node, n.Text) >= 0, impl.ChkTwice, node)
	case impl.NStore:
		a.ask(a.seen(node, n.Text) < 0, impl.ChkName, node)
		a.ask(a.localKind(a.seen(node, n.Text)) != value, impl.ChkKind, node)
	case impl.NSetComp:
		a.column(node, n.Text)
		a.ask(a.declKind(impl.SortComp, n.Text) != value, impl.ChkKind, node)
	case impl.NSetRes:
		a.ask(a.find(impl.SortRes, n.Text) < 0, impl.ChkName, node)
		a.ask(a.declKind(impl.SortRes, n.Text) != value, impl.ChkKind, node)
	case impl.NEmit:
		a.ask(a.find(impl.SortEvt, n.Text) < 0, impl.ChkName, node)
		a.ask(a.declKind(impl.SortEvt, n.Text) != value, impl.ChkKind, node)
	case impl.NPut:
		a.ask(a.find(impl.SortComp, n.Text) < 0, impl.ChkName, node)
		a.ask(a.declKind(impl.SortComp, n.Text) != value, impl.ChkKind, node)
	case impl.NDrop:
		a.ask(a.find(impl.SortComp, n.Text) < 0, impl.ChkName, node)
	}
}

func (a *audit) call(node int, n impl.Node) {
	fn := a.fnAhead(node, n.Text)
	if fn < 0 {
		a.ask(true, impl.ChkName, node)
		return
	}
	kids := a.t.Nodes[fn].Kids
	if len(n.Kids) != len(kids)-1 {
		a.ask(true, impl.ChkArgs, node)
		return
	}
	for i, kid := range n.Kids {
		a.ask(a.kindOf(kid) != a.t.Nodes[kids[i]].I, impl.ChkKind, node)
	}
}
