package tests

import (
	"slices"
	"strings"
	"testing"

	"loop.example/g00070/impl"
)

// What an author writes may run, and has the kinds that an audit tells.
func TestAnyRightTexts(t *testing.T) {
	w := newAuthor(9)
	met := map[int]bool{}
	for range 600 {
		x := treeOf(w.text(4, 3)...)
		if len(x.Nodes) > 250 {
			continue
		}
		if f := audited(t, w.r, x); f.code != impl.ChkDone {
			text, _ := impl.Print(x)
			t.Fatalf("the author is wrong: %v %s", f, text)
		}
		for _, n := range x.Nodes {
			met[n.Kind] = true
		}
	}
	if len(met) != impl.NSystem {
		t.Error("not every kind of node was written:", met)
	}
}

// spread writes a text's tokens with blanks and remarks between.
func spread(d *dice, text string) string {
	var b strings.Builder
	for _, word := range strings.Fields(text) {
		b.WriteString(word + oneOf(d, []string{" ", "\n", "\t", "   ", " # } else 7 $\n", "\n#\n"}))
	}
	return b.String()
}

// Kinds, codes and nodes are the same however a tree is written: with the
// parentheses that it needs, with all, with needless ones, with blanks and
// remarks, and printed and read again.
func TestKindsDoNotHangOnHowATextIsWritten(t *testing.T) {
	w := newAuthor(90)
	count := 0
	for round := range 300 {
		tops := w.text(3, 2)
		if round%2 == 1 {
			tops = w.mar(tops)
		}
		x := treeOf(tops...)
		printed, ok := impl.Print(x)
		if !ok || len(x.Nodes) > 100 {
			continue
		}
		code, node := impl.Check(w.r, x)
		for _, text := range []string{printed, pen{}.textOf(tops...), pen{all: true}.textOf(tops...), pen{extra: &w.dice}.textOf(tops...), spread(&w.dice, pen{extra: &w.dice}.textOf(tops...))} {
			y, parCode, _ := impl.Parse(text)
			if parCode == impl.ParLex || parCode == impl.ParDeep {
				continue
			}
			count++
			if c, n := impl.Check(w.r, y); c != code || n != node {
				t.Fatalf("Check: %d %d, not %d %d: %s", c, n, code, node, text)
			}
			for i := range x.Nodes {
				if impl.KindOf(w.r, x, i) != impl.KindOf(w.r, y, i) {
					t.Fatalf("the kind of node %d is another one: %s", i, text)
				}
			}
		}
	}
	if count < 700 {
		t.Error("too few texts:", count)
	}
}

// A further function behind the tops changes nothing, if it is right by
// itself; nor does a further system.
func TestOneMoreTopBehind(t *testing.T) {
	w := newAuthor(99)
	behind := []string{"fn more() int { return 1; }", "fn more(a int, b pair) real { let c = a; loop c { c = c - 1; } return re(b) * real(c); }", "system more { each with Hp { .Hp = 1; } hear Hit as h { } }"}
	texts := []string{wholeText, "", "system s { }", "fn f() int { return 1; } system s { do f(); }"}
	for range 60 {
		texts = append(texts, pen{}.textOf(w.text(3, 2)...))
	}
	for _, text := range texts {
		x, code, _ := impl.Parse(text)
		if code != impl.ParDone || len(x.Nodes) > 300 {
			continue
		}
		for _, more := range behind {
			y := checked(t, text+more)
			for i := range x.Nodes {
				if impl.KindOf(checkReg(), x, i) != impl.KindOf(checkReg(), y, i) {
					t.Fatalf("the kind of node %d is another one with %q behind %s", i, more, text)
				}
			}
		}
	}
}

// mar is a copy of tops in which something is changed that leaves the tree
// right, but may be a fault.
func (w *author) mar(tops []*plant) []*plant {
	tops = clonePlants(tops)
	if w.roll(12) == 0 {
		i := w.roll(len(tops))
		switch w.roll(3) {
		case 0:
			return slices.Insert(tops, w.roll(len(tops)+1), clonePlant(tops[i]))
		case 1:
			return slices.Delete(tops, i, i+1)
		}
		j := w.roll(len(tops))
		tops[i], tops[j] = tops[j], tops[i]
		return tops
	}
	var all []*plant
	for _, top := range tops {
		all = append(all, plantsOf(top)...)
	}
	w.marPlant(oneOf(&w.dice, all))
	return tops
}

var strangeNames = slices.Concat(localNames, topNames, []string{"Nope", "Mass", "Pos", "On", "Mp", "Heat", "Wind", "Home", "Burn", "Move"})

func (w *author) marPlant(p *plant) {
	switch {
	case p.kind == impl.NOp && w.roll(2) == 0:
		p.i = 1 + w.roll(9)
	case p.kind == impl.NTurn && w.roll(2) == 0:
		p.i = 1 + w.roll(6)
	case (p.kind == impl.NFn || p.kind == impl.NParam) && w.roll(2) == 0:
		p.i = w.kind()
	case p.kind <= impl.NPick && p.kind != impl.NCall && w.roll(2) == 0: // an NDo wants its NCall
		*p = *w.stray()
	case p.kind == impl.NBlock:
		w.marBlock(p)
	case p.text != "" && p.kind != impl.NReal:
		p.text = oneOf(&w.dice, strangeNames)
		if w.roll(2) == 0 {
			p.text = oneOf(&w.dice, w.r.Comps).Name
		}
	case len(p.kids) > 0:
		w.marKids(p)
	}
}

// stray is an expression of any kind, whether it may stand here or not.
func (w *author) stray() *plant {
	name := oneOf(&w.dice, strangeNames)
	return oneOf(&w.dice, []*plant{
		wholeLeaf(1), realLeaf("1.5"), yesLeaf(1), localLeaf(name), leaf(impl.NComp, name, 0), leaf(impl.NRes, name, 0),
		named(impl.NCall, name), named(impl.NCall, name, wholeLeaf(1)), pickPlant(wholeLeaf(1), name, "Hp"), pickPlant(yesLeaf(1), name),
		grown(impl.NPair, realLeaf("1.5"), wholeLeaf(1)), opPlant(1+w.roll(9), wholeLeaf(1), yesLeaf(0)), turnPlant(1+w.roll(6), leaf(impl.NRes, "Home", 0)),
	})
}

func (w *author) marBlock(p *plant) {
	name := oneOf(&w.dice, strangeNames)
	if n := len(p.kids); n > 0 && w.roll(3) == 0 {
		i, j := w.roll(n), w.roll(n)
		switch w.roll(3) {
		case 0:
			p.kids[i], p.kids[j] = p.kids[j], p.kids[i]
		case 1:
			p.kids = slices.Delete(p.kids, i, i+1)
		case 2:
			p.kids = slices.Insert(p.kids, j, clonePlant(p.kids[i]))
		}
		return
	}
	e := w.stray()
	s := oneOf(&w.dice, []*plant{
		grown(impl.NKill), grown(impl.NReturn, e), named(impl.NLet, name, e), named(impl.NStore, name, e), named(impl.NSetComp, name, e), named(impl.NSetRes, name, e),
		named(impl.NEmit, name, e), named(impl.NPut, name, e), leaf(impl.NDrop, name, 0), grown(impl.NIf, e, blockPlant()), grown(impl.NLoop, e, blockPlant()),
		eachPlant([]string{"Hp", name}, nil), eachPlant([]string{"Hp"}, []string{name}), named(impl.NHear, name, leaf(impl.NName, "h", 0), blockPlant()),
		named(impl.NHear, "Hit", leaf(impl.NName, name, 0), blockPlant()), grown(impl.NSpawn, named(impl.NCell, name, e)), grown(impl.NDo, named(impl.NCall, name, e)),
	})
	p.kids = slices.Insert(p.kids, w.roll(len(p.kids)+1), s)
}

// marKids leaves out a kid, doubles one or lets two trade places, where that
// leaves the node right.
func (w *author) marKids(p *plant) {
	least := map[int]int{impl.NCall: 0, impl.NSpawn: 0, impl.NWithout: 0, impl.NWith: 1}
	few, ok := least[p.kind]
	if !ok {
		return
	}
	i, j := w.roll(len(p.kids)), w.roll(len(p.kids))
	switch w.roll(3) {
	case 0:
		p.kids = slices.Insert(p.kids, j, clonePlant(p.kids[i]))
	case 1:
		if len(p.kids) > few {
			p.kids = slices.Delete(p.kids, i, i+1)
		}
	case 2:
		p.kids[i], p.kids[j] = p.kids[j], p.kids[i]
	}
}

// Texts with some faults, held against an audit: the code and the node of the
// first one. Every fault of every row comes up.
func TestAnyFaults(t *testing.T) {
	w := newAuthor(999)
	met := map[fault]int{}
	for range 12000 {
		tops := w.text(4, 2)
		for range 1 + w.roll(4) {
			if len(tops) > 0 {
				tops = w.mar(tops)
			}
		}
		x := treeOf(tops...)
		if len(x.Nodes) > 200 {
			continue
		}
		if _, f := auditedFirst(t, w.r, x); f.code != impl.ChkDone {
			met[fault{f.code, x.Nodes[f.node].Kind}]++
		}
	}
	for _, f := range everyFault() {
		if met[f] == 0 {
			t.Errorf("code %d at nodes of kind %d never came up", f.code, f.node)
		}
	}
	if len(met) != len(everyFault()) {
		t.Error("faults that no row has:", met)
	}
}

// everyFault is the codes of the table, by the kinds of nodes that have them.
func everyFault() []fault {
	codes := map[int][]int{
		impl.ChkTwice: {impl.NFn, impl.NParam, impl.NSystem, impl.NLet, impl.NName, impl.NCell},
		impl.ChkName:  {impl.NLocal, impl.NComp, impl.NRes, impl.NCall, impl.NName, impl.NStore, impl.NSetComp, impl.NSetRes, impl.NEmit, impl.NHear, impl.NCell, impl.NPut, impl.NDrop},
		impl.ChkKind:  {impl.NFn, impl.NCall, impl.NOp, impl.NTurn, impl.NPair, impl.NPick, impl.NName, impl.NStore, impl.NSetComp, impl.NSetRes, impl.NEmit, impl.NIf, impl.NLoop, impl.NCell, impl.NPut},
		impl.ChkPlace: {impl.NFn, impl.NComp, impl.NPick, impl.NName, impl.NSetComp, impl.NEach, impl.NHear, impl.NKill, impl.NPut, impl.NDrop, impl.NReturn},
		impl.ChkArgs:  {impl.NCall},
	}
	var list []fault
	for code, kinds := range codes {
		for _, kind := range kinds {
			list = append(list, fault{code, kind})
		}
	}
	return list
}

// Trees of any names, of which hardly one may run.
func TestAnyTreesAudited(t *testing.T) {
	g := &gardener{dice(909)}
	for range 3000 {
		x := treeOf(g.tops(3, 3)...)
		auditedFirst(t, checkReg(), x)
	}
	for _, x := range everyKind() {
		audited(t, checkReg(), x)
	}
}
