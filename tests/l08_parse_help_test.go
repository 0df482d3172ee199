package tests

import (
	"slices"
	"strings"
	"testing"

	"loop.example/g00070/impl"
)

// plant is a tree that is linked by pointers, so that its nodes have no
// numbers of their own.
type plant struct {
	kind int
	text string
	i    int
	kids []*plant
}

func leaf(kind int, text string, i int) *plant { return &plant{kind: kind, text: text, i: i} }

func grown(kind int, kids ...*plant) *plant { return &plant{kind: kind, kids: kids} }

func named(kind int, text string, kids ...*plant) *plant {
	return &plant{kind: kind, text: text, kids: kids}
}

func wholeLeaf(i int) *plant { return leaf(impl.NInt, "", i) }

func realLeaf(text string) *plant { return leaf(impl.NReal, text, 0) }

func localLeaf(text string) *plant { return leaf(impl.NLocal, text, 0) }

func yesLeaf(i int) *plant { return leaf(impl.NYesNo, "", i) }

func opPlant(op int, a, b *plant) *plant {
	return &plant{kind: impl.NOp, i: op, kids: []*plant{a, b}}
}

func turnPlant(op int, a *plant) *plant {
	return &plant{kind: impl.NTurn, i: op, kids: []*plant{a}}
}

func blockPlant(kids ...*plant) *plant { return grown(impl.NBlock, kids...) }

// namesPlant is an NWith or an NWithout.
func namesPlant(kind int, names ...string) *plant {
	p := grown(kind)
	for _, name := range names {
		p.kids = append(p.kids, leaf(impl.NName, name, 0))
	}
	return p
}

func eachPlant(with, without []string, statements ...*plant) *plant {
	return grown(impl.NEach, namesPlant(impl.NWith, with...), namesPlant(impl.NWithout, without...), blockPlant(statements...))
}

func pickPlant(e *plant, names ...string) *plant {
	p := namesPlant(impl.NPick, names...)
	p.kids = slices.Insert(p.kids, 0, e)
	return p
}

func fnPlant(name string, kind int, block *plant, params ...*plant) *plant {
	return &plant{kind: impl.NFn, text: name, i: kind, kids: append(params, block)}
}

func systemPlant(name string, statements ...*plant) *plant {
	return named(impl.NSystem, name, blockPlant(statements...))
}

// treeOf numbers plants: of each one all its kids, in order, then itself.
func treeOf(tops ...*plant) impl.Tree {
	var t impl.Tree
	for _, p := range tops {
		t.Tops = append(t.Tops, addPlant(&t, p))
	}
	return t
}

func addPlant(t *impl.Tree, p *plant) int {
	n := impl.Node{Kind: p.kind, Text: p.text, I: p.i}
	for _, kid := range p.kids {
		n.Kids = append(n.Kids, addPlant(t, kid))
	}
	t.Nodes = append(t.Nodes, n)
	return len(t.Nodes) - 1
}

func sameTree(a, b impl.Tree) bool {
	return slices.Equal(a.Tops, b.Tops) && slices.EqualFunc(a.Nodes, b.Nodes, func(a, b impl.Node) bool {
		return a.Kind == b.Kind && a.Text == b.Text && a.I == b.I && slices.Equal(a.Kids, b.Kids)
	})
}

func cloneTree(t impl.Tree) impl.Tree {
	t = impl.Tree{Nodes: slices.Clone(t.Nodes), Tops: slices.Clone(t.Tops)}
	for i := range t.Nodes {
		t.Nodes[i].Kids = slices.Clone(t.Nodes[i].Kids)
	}
	return t
}

// readAs asks that a text is read as these plants, that what is read is right,
// and that what is printed of it is read, and printed, as the same.
func readAs(t *testing.T, text string, tops ...*plant) {
	t.Helper()
	want := treeOf(tops...)
	x, code, at := impl.Parse(text)
	if code != impl.ParDone || at != 0 || !sameTree(x, want) {
		t.Errorf("Parse(%.300q): %d %d %v, not %v", text, code, at, firstNodes(x), firstNodes(want))
		return
	}
	if !impl.TreeOk(x) {
		t.Errorf("what is read of %.300q is not right: %v", text, firstNodes(x))
	}
	printedBack(t, x)
}

// printedBack asks that a right tree is what its printed text is read as.
func printedBack(t *testing.T, x impl.Tree) string {
	t.Helper()
	text, ok := impl.Print(x)
	if !ok {
		t.Errorf("Print refuses %v", firstNodes(x))
		return ""
	}
	y, code, at := impl.Parse(text)
	if code != impl.ParDone || at != 0 || !sameTree(x, y) || !impl.TreeSame(x, y) {
		t.Errorf("what is printed, %.300q, is read as %d %d %v", text, code, at, firstNodes(y))
	}
	if again, ok := impl.Print(y); !ok || again != text {
		t.Errorf("%.300q is printed again as %.300q", text, again)
	}
	return text
}

// readRefused asks for a code, a place, and no tree.
func readRefused(t *testing.T, text string, wantCode, wantAt int) {
	t.Helper()
	x, code, at := impl.Parse(text)
	if code != wantCode || at != wantAt || len(x.Nodes) != 0 || len(x.Tops) != 0 {
		t.Errorf("Parse(%.400q): %d %d %v, not %d %d", text, code, at, firstNodes(x), wantCode, wantAt)
	}
}

// firstNodes keeps what a test tells short.
func firstNodes(t impl.Tree) impl.Tree {
	return impl.Tree{Nodes: t.Nodes[:min(len(t.Nodes), 30)], Tops: t.Tops[:min(len(t.Tops), 10)]}
}

// inSystem puts statements into a system.
func inSystem(statements string) string { return "system s { " + statements + " }" }

// asValue puts an expression into a statement of a system.
func asValue(e string) string { return inSystem("x = " + e + " ;") }

func valueOf(e *plant) *plant { return systemPlant("s", named(impl.NStore, "x", e)) }

// How the plants are written, by their numbers.
var (
	opSigns   = []string{impl.OpAdd: "+", impl.OpSub: "-", impl.OpMul: "*", impl.OpDiv: "/", impl.OpMod: "%", impl.OpLess: "<", impl.OpSame: "==", impl.OpAnd: "and", impl.OpOr: "or"}
	opBinds   = []int{impl.OpAdd: 4, impl.OpSub: 4, impl.OpMul: 5, impl.OpDiv: 5, impl.OpMod: 5, impl.OpLess: 3, impl.OpSame: 3, impl.OpAnd: 2, impl.OpOr: 1}
	turnSigns = []string{impl.TurnNeg: "-", impl.TurnNot: "not", impl.TurnRe: "re", impl.TurnIm: "im", impl.TurnReal: "real", impl.TurnSize: "size"}
	kindSigns = []string{impl.KInt: "int", impl.KReal: "real", impl.KPair: "pair", impl.KBool: "bool"}
)

func compares(op int) bool { return op == impl.OpLess || op == impl.OpSame }

// pen writes plants as texts of tokens. With all it puts every operation and
// every sign in parentheses, and nothing else; else none but where they are
// needed, and, with dice, some more.
type pen struct {
	all   bool
	extra *dice
	words []string
}

// textOf is what a pen writes of tops, each in a line of its own.
func (w pen) textOf(tops ...*plant) string {
	var b strings.Builder
	for _, p := range tops {
		w.words = nil
		w.top(p)
		b.WriteString(strings.Join(w.words, " ") + "\n")
	}
	return b.String()
}

func (w *pen) put(words ...string) { w.words = append(w.words, words...) }

func (w *pen) top(p *plant) {
	if p.kind == impl.NSystem {
		w.put("system", p.text)
		w.block(p.kids[0])
		return
	}
	w.put("fn", p.text, "(")
	last := len(p.kids) - 1
	for i, k := range p.kids[:last] {
		if i > 0 {
			w.put(",")
		}
		w.put(k.text, kindSigns[k.i])
	}
	w.put(")", kindSigns[p.i])
	w.block(p.kids[last])
}

func (w *pen) block(p *plant) {
	w.put("{")
	for _, k := range p.kids {
		w.statement(k)
	}
	w.put("}")
}

func (w *pen) names(list []*plant) {
	for i, k := range list {
		if i > 0 {
			w.put(",")
		}
		w.put(k.text)
	}
}

func (w *pen) values(list []*plant) {
	w.put("(")
	for i, k := range list {
		if i > 0 {
			w.put(",")
		}
		if k.kind == impl.NCell {
			w.put(k.text, "=")
			k = k.kids[0]
		}
		w.whole(k)
	}
	w.put(")")
}

func (w *pen) statement(p *plant) {
	switch p.kind {
	case impl.NIf:
		w.put("if")
		w.whole(p.kids[0])
		w.block(p.kids[1])
		if len(p.kids) == 3 {
			w.put("else")
			w.block(p.kids[2])
		}
	case impl.NLoop:
		w.put("loop")
		w.whole(p.kids[0])
		w.block(p.kids[1])
	case impl.NEach:
		w.put("each", "with")
		w.names(p.kids[0].kids)
		if len(p.kids[1].kids) > 0 {
			w.put("without")
			w.names(p.kids[1].kids)
		}
		w.block(p.kids[2])
	case impl.NHear:
		w.put("hear", p.text, "as", p.kids[0].text)
		w.block(p.kids[1])
	default:
		w.short(p)
		w.put(";")
	}
}

// short writes a statement that has no block.
func (w *pen) short(p *plant) {
	heads := map[int][]string{
		impl.NLet: {"let", p.text, "="}, impl.NStore: {p.text, "="}, impl.NSetComp: {".", p.text, "="}, impl.NSetRes: {"$", p.text, "="},
		impl.NPut: {"put", p.text, "="}, impl.NDrop: {"drop", p.text}, impl.NEmit: {"emit", p.text}, impl.NKill: {"kill"},
		impl.NReturn: {"return"}, impl.NSpawn: {"spawn"}, impl.NDo: {"do"},
	}
	w.put(heads[p.kind]...)
	switch {
	case p.kind == impl.NSpawn:
		w.values(p.kids)
	case p.kind == impl.NDo:
		w.put(p.kids[0].text)
		w.values(p.kids[0].kids)
	case len(p.kids) > 0:
		w.whole(p.kids[0])
	}
}

func (w *pen) whole(p *plant) { w.operand(p, 0) }

// operand writes p where what binds less than least needs parentheses.
func (w *pen) operand(p *plant, least int) {
	isSign := p.kind == impl.NTurn && p.i <= impl.TurnNot
	needed := p.kind == impl.NOp && opBinds[p.i] < least
	if w.all {
		needed = p.kind == impl.NOp || isSign
	}
	more := 0
	if w.extra != nil && w.extra.roll(8) == 0 {
		more = 1 + w.extra.roll(2)
	}
	if needed {
		more++
	}
	w.put(slices.Repeat([]string{"("}, more)...)
	w.bare(p)
	w.put(slices.Repeat([]string{")"}, more)...)
}

func (w *pen) bare(p *plant) {
	switch p.kind {
	case impl.NInt:
		w.put(impl.ValText(whole(p.i)))
	case impl.NReal, impl.NLocal:
		w.put(p.text)
	case impl.NYesNo:
		w.put([]string{"no", "yes"}[p.i])
	case impl.NComp:
		w.put(".", p.text)
	case impl.NRes:
		w.put("$", p.text)
	case impl.NCall:
		w.put(p.text)
		w.values(p.kids)
	case impl.NOp:
		binds := opBinds[p.i]
		left := binds
		if compares(p.i) {
			left++
		}
		w.operand(p.kids[0], left)
		w.put(opSigns[p.i])
		w.operand(p.kids[1], binds+1)
	case impl.NTurn:
		w.put(turnSigns[p.i])
		if p.i <= impl.TurnNot {
			w.operand(p.kids[0], 6)
		} else {
			w.values(p.kids)
		}
	case impl.NPair:
		w.put("pair")
		w.values(p.kids)
	case impl.NPick:
		w.put("pick", "(")
		w.whole(p.kids[0])
		w.put("of")
		w.names(p.kids[1:])
		w.put(")")
	}
}

// gardener grows plants by chance.
type gardener struct{ dice }

var someNames = []string{"a", "b", "Hp", "Pos", "x", "Zz", "abcdefghijkl", "lets", "If", "N", "nots"}

func (g *gardener) name() string { return someNames[g.roll(len(someNames))] }

func (g *gardener) names(most int) []string {
	var list []string
	for range 1 + g.roll(most) {
		list = append(list, g.name())
	}
	return list
}

// expression is at most so deep.
func (g *gardener) expression(deep int) *plant {
	if deep <= 0 {
		return g.leaf()
	}
	switch g.roll(9) {
	case 0:
		return g.leaf()
	case 1:
		return named(impl.NCall, g.name(), g.expressions(deep-1, g.roll(4))...)
	case 2, 3, 4:
		return opPlant(1+g.roll(9), g.expression(deep-1), g.expression(deep-1))
	case 5:
		return turnPlant(1+g.roll(2), g.expression(deep-1))
	case 6:
		return turnPlant(1+g.roll(6), g.expression(deep-1))
	case 7:
		return grown(impl.NPair, g.expressions(deep-1, 2)...)
	}
	return pickPlant(g.expression(deep-1), g.names(3)...)
}

func (g *gardener) expressions(deep, n int) []*plant {
	var list []*plant
	for range n {
		list = append(list, g.expression(deep))
	}
	return list
}

func (g *gardener) leaf() *plant {
	switch g.roll(6) {
	case 0:
		return wholeLeaf([]int{0, 1, 7, 10, 999999999999999, g.roll(1000000)}[g.roll(6)])
	case 1:
		return realLeaf([]string{"0.0", "1.50", "999999999.999999", "0.000001", "12.25"}[g.roll(5)])
	case 2:
		return yesLeaf(g.roll(2))
	case 3:
		return leaf(impl.NComp, g.name(), 0)
	case 4:
		return leaf(impl.NRes, g.name(), 0)
	}
	return localLeaf(g.name())
}

func (g *gardener) block(deep, most int) *plant {
	p := blockPlant()
	for range g.roll(most + 1) {
		p.kids = append(p.kids, g.statement(deep-1))
	}
	return p
}

func (g *gardener) statement(deep int) *plant {
	kinds := []int{impl.NLet, impl.NStore, impl.NSetComp, impl.NSetRes, impl.NEmit, impl.NPut, impl.NReturn, impl.NSpawn, impl.NKill, impl.NDrop, impl.NDo, impl.NIf, impl.NLoop, impl.NEach, impl.NHear}
	if deep <= 0 {
		kinds = kinds[:11]
	}
	switch kind := kinds[g.roll(len(kinds))]; kind {
	case impl.NReturn:
		return grown(kind, g.expression(deep))
	case impl.NSpawn:
		p := grown(kind)
		for range g.roll(3) {
			p.kids = append(p.kids, named(impl.NCell, g.name(), g.expression(deep)))
		}
		return p
	case impl.NKill:
		return grown(kind)
	case impl.NDrop:
		return leaf(kind, g.name(), 0)
	case impl.NDo:
		return grown(kind, named(impl.NCall, g.name(), g.expressions(deep, g.roll(3))...))
	case impl.NIf:
		p := grown(kind, g.expression(deep), g.block(deep, 2))
		if g.roll(2) == 0 {
			p.kids = append(p.kids, g.block(deep, 2))
		}
		return p
	case impl.NLoop:
		return grown(kind, g.expression(deep), g.block(deep, 2))
	case impl.NEach:
		var without []string
		if g.roll(2) == 0 {
			without = g.names(3)
		}
		return grown(kind, namesPlant(impl.NWith, g.names(3)...), namesPlant(impl.NWithout, without...), g.block(deep, 3))
	case impl.NHear:
		return named(kind, g.name(), leaf(impl.NName, g.name(), 0), g.block(deep, 2))
	default:
		return named(kind, g.name(), g.expression(deep))
	}
}

func (g *gardener) top(deep int) *plant {
	if g.roll(2) == 0 {
		return named(impl.NSystem, g.name(), g.block(deep, 4))
	}
	var params []*plant
	for range g.roll(4) {
		params = append(params, leaf(impl.NParam, g.name(), 1+g.roll(4)))
	}
	return fnPlant(g.name(), 1+g.roll(4), g.block(deep, 4), params...)
}

func (g *gardener) tops(deep, most int) []*plant {
	var list []*plant
	for range g.roll(most + 1) {
		list = append(list, g.top(deep))
	}
	return list
}

// nested is the nesting of what a pen writes with all, within open others.
func nested(p *plant, open int) int {
	most := open
	for i, k := range p.kids {
		most = max(most, nestedKid(p, i, k, open))
	}
	return most
}

func nestedKid(p *plant, i int, k *plant, open int) int {
	switch p.kind {
	case impl.NOp:
		return nested(k, open+1)
	case impl.NTurn:
		if p.i <= impl.TurnNot {
			return nested(k, open+2)
		}
		return nested(k, open+1)
	case impl.NDo:
		return nested(k, open)
	}
	if k.kind == impl.NBlock || k.kind <= impl.NPick {
		return nested(k, open+1)
	}
	return nested(k, open)
}
