package tests

import (
	"regexp"
	"slices"
	"strings"
	"testing"

	"loop.example/g00070/impl"
)

// form is what the tables say of a kind of node: its text, its number, and its
// kids, a letter for each.
type form struct {
	letter string
	text   string
	low    int
	high   int
	kids   string
}

const (
	noText   = `^$`
	nameText = `^[a-zA-Z]{1,12}$`
	realText = `^(0|[1-9][0-9]{0,8})\.[0-9]{1,6}$`
)

// plainForms calls a call C, any other expression E, a statement S, a block B,
// a cell Z, the two of an NEach V and W, a name N, a parameter P, a top T.
func plainForms() map[int]form {
	forms := map[int]form{
		impl.NInt: {"E", noText, 0, 999999999999999, ``}, impl.NReal: {"E", realText, 0, 0, ``}, impl.NYesNo: {"E", noText, 0, 1, ``},
		impl.NLocal: {"E", nameText, 0, 0, ``}, impl.NComp: {"E", nameText, 0, 0, ``}, impl.NRes: {"E", nameText, 0, 0, ``},
		impl.NCall: {"C", nameText, 0, 0, `[CE]*`}, impl.NOp: {"E", noText, 1, 9, `[CE][CE]`}, impl.NTurn: {"E", noText, 1, 6, `[CE]`},
		impl.NPair: {"E", noText, 0, 0, `[CE][CE]`}, impl.NPick: {"E", noText, 0, 0, `[CE]N+`},
		impl.NIf: {"S", noText, 0, 0, `[CE]BB?`}, impl.NLoop: {"S", noText, 0, 0, `[CE]B`}, impl.NEach: {"S", noText, 0, 0, `VWB`},
		impl.NHear: {"S", nameText, 0, 0, `NB`}, impl.NSpawn: {"S", noText, 0, 0, `Z*`}, impl.NKill: {"S", noText, 0, 0, ``},
		impl.NDrop: {"S", nameText, 0, 0, ``}, impl.NDo: {"S", noText, 0, 0, `C`}, impl.NReturn: {"S", noText, 0, 0, `[CE]`},
		impl.NBlock: {"B", noText, 0, 0, `S*`}, impl.NCell: {"Z", nameText, 0, 0, `[CE]`}, impl.NWith: {"V", noText, 0, 0, `N+`}, impl.NWithout: {"W", noText, 0, 0, `N*`},
		impl.NName: {"N", nameText, 0, 0, ``}, impl.NParam: {"P", nameText, 1, 4, ``}, impl.NFn: {"T", nameText, 1, 4, `P*B`}, impl.NSystem: {"T", nameText, 0, 0, `B`},
	}
	for _, kind := range []int{impl.NLet, impl.NStore, impl.NSetComp, impl.NSetRes, impl.NEmit, impl.NPut} {
		forms[kind] = form{"S", nameText, 0, 0, `[CE]`}
	}
	return forms
}

// treeJudge tells by a walk from the tops down which trees are right.
type treeJudge struct {
	forms    map[int]form
	patterns map[string]*regexp.Regexp
}

func newTreeJudge() *treeJudge {
	j := &treeJudge{plainForms(), map[string]*regexp.Regexp{}}
	for _, f := range j.forms {
		for _, p := range []string{f.text, `^` + f.kids + `$`} {
			j.patterns[p] = regexp.MustCompile(p)
		}
	}
	return j
}

func (j *treeJudge) right(t impl.Tree) bool {
	if len(t.Nodes) > impl.MaxNodes {
		return false
	}
	count := 0
	for _, top := range t.Tops {
		if !j.walk(t, top, &count, len(t.Nodes)) || j.forms[t.Nodes[top].Kind].letter != "T" {
			return false
		}
	}
	return count == len(t.Nodes)
}

// walk counts the nodes of a node, and asks that each has the number to which
// the count has come; below is a number that it must be less than, so that no
// walk goes round.
func (j *treeJudge) walk(t impl.Tree, at int, count *int, below int) bool {
	if at < 0 || at >= below {
		return false
	}
	n := t.Nodes[at]
	letters := ""
	for _, kid := range n.Kids {
		if !j.walk(t, kid, count, at) {
			return false
		}
		letters += j.forms[t.Nodes[kid].Kind].letter
	}
	*count++
	f, ok := j.forms[n.Kind]
	if !ok || *count-1 != at || n.I < f.low || n.I > f.high {
		return false
	}
	word := f.text == nameText && slices.Contains(allWords, n.Text)
	return !word && j.patterns[f.text].MatchString(n.Text) && j.patterns[`^`+f.kids+`$`].MatchString(letters)
}

// holds holds TreeOk and Print against the judge.
func (j *treeJudge) holds(t *testing.T, what string, x impl.Tree) bool {
	t.Helper()
	want := j.right(x)
	if impl.TreeOk(x) != want {
		t.Errorf("%s: TreeOk is not %v: %v", what, want, firstNodes(x))
	}
	if s, ok := impl.Print(x); ok != want || !ok && s != "" {
		t.Errorf("%s: Print tells %.100q %v: %v", what, s, ok, firstNodes(x))
	}
	return want
}

func refusedTree(t *testing.T, what string, x impl.Tree) {
	t.Helper()
	if impl.TreeOk(x) {
		t.Errorf("%s is taken for right: %v", what, firstNodes(x))
	}
	if s, ok := impl.Print(x); ok || s != "" {
		t.Errorf("%s is printed: %.100q", what, s)
	}
}

// everyKind has each kind of node, and each form of it.
func everyKind() []impl.Tree {
	var tops []*plant
	for _, s := range someStatements() {
		tops = append(tops, systemPlant("s", s.is))
	}
	for _, e := range someExpressions() {
		tops = append(tops, valueOf(e.is))
	}
	param := leaf(impl.NParam, "p", impl.KBool)
	tops = append(tops, systemPlant("s"), fnPlant("f", impl.KInt, blockPlant()), fnPlant("f", impl.KPair, blockPlant(grown(impl.NKill)), param), fnPlant("f", impl.KReal, blockPlant(), param, param, param))
	list := []impl.Tree{{}, treeOf(tops[0], tops[60], tops[len(tops)-1]), treeOf(tops[3], tops[3])}
	for _, top := range tops {
		list = append(list, treeOf(top))
	}
	return list
}

func TestRightTrees(t *testing.T) {
	j := newTreeJudge()
	kinds := map[int]bool{}
	for _, x := range everyKind() {
		if !j.holds(t, "a right tree", x) {
			t.Error("not right:", x)
		}
		for _, n := range x.Nodes {
			kinds[n.Kind] = true
		}
	}
	if len(kinds) != impl.NSystem {
		t.Error("not every kind:", kinds)
	}
}

var oddNumbers = []int{0, 1, 2, 3, 4, 5, 6, 7, 8, 9, 10, -1, -2, 999999999999999, 1000000000000000, mostInt, leastInt}

var oddTexts = []string{
	"", "a", "x", "abcdefghijkl", "abcdefghijklm", "if", "let", "int", "yes", "size", "Yes", "a1", "1", "0", "1.5", "0.0", "01.5", "1.", ".5", "1.1234567", "1234567890.5", "-1.5",
	" ", "a ", " a", "a b", "a\n", "é", "\xff", "\x00", "{", "#", "ａ", strings.Repeat("a", 100000), strings.Repeat("1", 100000) + ".5",
}

// Each node with another number, another text, another kind.
func TestOneNodeWrong(t *testing.T) {
	j := newTreeJudge()
	rights := 0
	for _, x := range everyKind() {
		for i := range x.Nodes {
			for _, n := range oddNumbers {
				y := cloneTree(x)
				y.Nodes[i].I = n
				if j.holds(t, "a number", y) {
					rights++
				}
			}
			for _, s := range oddTexts {
				y := cloneTree(x)
				y.Nodes[i].Text = s
				if j.holds(t, "a text", y) {
					rights++
				}
			}
			for kind := -1; kind <= impl.NSystem+2; kind++ {
				y := cloneTree(x)
				y.Nodes[i].Kind = kind
				if j.holds(t, "a kind", y) {
					rights++
				}
			}
		}
	}
	if rights < 1000 {
		t.Error("only", rights, "are right")
	}
}

// Each node with one kid too many, one too few, one of another kind.
func TestOneKidWrong(t *testing.T) {
	j := newTreeJudge()
	others := []*plant{
		wholeLeaf(1), named(impl.NCall, "f"), grown(impl.NKill), blockPlant(), named(impl.NCell, "A", wholeLeaf(1)), namesPlant(impl.NWith, "A"), namesPlant(impl.NWithout, "A"), namesPlant(impl.NWithout),
		leaf(impl.NName, "A", 0), leaf(impl.NParam, "p", impl.KInt), systemPlant("s"), leaf(35, "", 0), leaf(0, "", 0), leaf(-1, "", 0),
	}
	rights := 0
	for _, top := range []*plant{
		fnPlant("f", impl.KInt, blockPlant(grown(impl.NReturn, named(impl.NCall, "g", wholeLeaf(1), opPlant(impl.OpAdd, localLeaf("a"), turnPlant(impl.TurnRe, localLeaf("b")))))), leaf(impl.NParam, "a", impl.KInt), leaf(impl.NParam, "b", impl.KPair)),
		systemPlant("s", eachPlant([]string{"A", "B"}, []string{"C"}, grown(impl.NIf, localLeaf("a"), blockPlant(grown(impl.NKill)), blockPlant()), named(impl.NPut, "A", pickPlant(wholeLeaf(1), "A", "B")))),
		systemPlant("s", named(impl.NHear, "E", leaf(impl.NName, "h", 0), blockPlant(grown(impl.NSpawn, named(impl.NCell, "A", yesLeaf(1)), named(impl.NCell, "B", realLeaf("1.5")))))),
		systemPlant("s", grown(impl.NLoop, wholeLeaf(3), blockPlant(grown(impl.NDo, named(impl.NCall, "f", grown(impl.NPair, realLeaf("1.5"), leaf(impl.NComp, "A", 0)))), leaf(impl.NDrop, "A", 0)))),
		systemPlant("s", named(impl.NLet, "a", leaf(impl.NRes, "R", 0)), named(impl.NStore, "a", turnPlant(impl.TurnNot, yesLeaf(0))), named(impl.NSetComp, "A", wholeLeaf(1)), named(impl.NSetRes, "R", wholeLeaf(1)), named(impl.NEmit, "E", wholeLeaf(1)), grown(impl.NIf, yesLeaf(1), blockPlant())),
	} {
		if !j.holds(t, "a right tree", treeOf(top)) {
			t.Error("not right")
		}
		for _, p := range plantsOf(top) {
			was := p.kids
			for i := range len(was) + 1 {
				for _, other := range others {
					p.kids = slices.Insert(slices.Clone(was), i, other)
					rights += countIf(j.holds(t, "one too many", treeOf(top)))
					if i < len(was) {
						p.kids = slices.Replace(slices.Clone(was), i, i+1, other)
						rights += countIf(j.holds(t, "another one", treeOf(top)))
					}
				}
				if i < len(was) {
					p.kids = slices.Delete(slices.Clone(was), i, i+1)
					rights += countIf(j.holds(t, "one too few", treeOf(top)))
				}
			}
			p.kids = was
		}
	}
	if rights < 100 {
		t.Error("only", rights, "are right")
	}
}

func countIf(yes bool) int {
	if yes {
		return 1
	}
	return 0
}

func plantsOf(p *plant) []*plant {
	list := []*plant{p}
	for _, k := range p.kids {
		list = append(list, plantsOf(k)...)
	}
	return list
}

// Kids and tops below 0, above the nodes, twice, left out, in another order,
// or of another node.
func TestNumberingWrong(t *testing.T) {
	j := newTreeJudge()
	g := &gardener{dice(34)}
	trees := everyKind()
	for range 30 {
		trees = append(trees, treeOf(g.tops(2, 3)...))
	}
	for _, x := range trees {
		n := len(x.Nodes)
		if n > 60 {
			continue
		}
		for i := -1; i < n; i++ {
			for _, kid := range []int{-1, leastInt, 0, i - 1, i, i + 1, n - 1, n, n + 1, mostInt} {
				for at := range len(*kidsAt(&x, i)) + 1 {
					y := cloneTree(x)
					list := kidsAt(&y, i)
					*list = slices.Insert(*list, at, kid)
					j.holds(t, "a kid more", y)
					y = cloneTree(x)
					if list = kidsAt(&y, i); at < len(*list) {
						(*list)[at] = kid
						j.holds(t, "another kid", y)
						y = cloneTree(x)
						list = kidsAt(&y, i)
						*list = slices.Delete(*list, at, at+1)
						j.holds(t, "a kid less", y)
					}
				}
			}
			y := cloneTree(x)
			slices.Reverse(*kidsAt(&y, i))
			j.holds(t, "kids turned about", y)
		}
		for i := range n {
			y := cloneTree(x)
			y.Nodes = slices.Delete(y.Nodes, i, i+1)
			j.holds(t, "a node less", y)
			y = cloneTree(x)
			y.Nodes = slices.Insert(y.Nodes, i, y.Nodes[i])
			j.holds(t, "a node twice", y)
			y = cloneTree(x)
			y.Nodes[i], y.Nodes[n-1-i] = y.Nodes[n-1-i], y.Nodes[i]
			j.holds(t, "two nodes in one another's place", y)
		}
	}
}

// kidsAt is a node's Kids, or with -1 the Tops.
func kidsAt(t *impl.Tree, i int) *[]int {
	if i < 0 {
		return &t.Tops
	}
	return &t.Nodes[i].Kids
}

func TestWrongByHand(t *testing.T) {
	empty := treeOf(systemPlant("s"))
	for what, x := range map[string]impl.Tree{
		"a top without nodes":        {Tops: []int{0}},
		"a node without a top":       {Nodes: []impl.Node{{Kind: impl.NBlock}, {Kind: impl.NSystem, Text: "s", Kids: []int{0}}}},
		"a top that is a block":      {Nodes: []impl.Node{{Kind: impl.NBlock}}, Tops: []int{0}},
		"a top that is a number":     {Nodes: []impl.Node{{Kind: impl.NInt}}, Tops: []int{0}},
		"a top that is a statement":  {Nodes: []impl.Node{{Kind: impl.NKill}}, Tops: []int{0}},
		"a top of no kind":           {Nodes: []impl.Node{{}}, Tops: []int{0}},
		"its own kid":                {Nodes: []impl.Node{{Kind: impl.NSystem, Text: "s", Kids: []int{0}}}, Tops: []int{0}},
		"each other's kids":          {Nodes: []impl.Node{{Kind: impl.NBlock, Kids: []int{1}}, {Kind: impl.NSystem, Text: "s", Kids: []int{0}}}, Tops: []int{1}},
		"the block behind":           {Nodes: []impl.Node{{Kind: impl.NSystem, Text: "s", Kids: []int{1}}, {Kind: impl.NBlock}}, Tops: []int{0}},
		"a top twice":                {Nodes: empty.Nodes, Tops: []int{1, 1}},
		"a top below 0":              {Nodes: empty.Nodes, Tops: []int{-1}},
		"a top above":                {Nodes: empty.Nodes, Tops: []int{2}},
		"tops from behind":           {Nodes: []impl.Node{{Kind: impl.NBlock}, {Kind: impl.NSystem, Text: "s", Kids: []int{0}}, {Kind: impl.NBlock}, {Kind: impl.NSystem, Text: "t", Kids: []int{2}}}, Tops: []int{3, 1}},
		"one block for two":          {Nodes: []impl.Node{{Kind: impl.NBlock}, {Kind: impl.NSystem, Text: "s", Kids: []int{0}}, {Kind: impl.NSystem, Text: "t", Kids: []int{0}}}, Tops: []int{1, 2}},
		"blocks ahead of both":       {Nodes: []impl.Node{{Kind: impl.NBlock}, {Kind: impl.NBlock}, {Kind: impl.NSystem, Text: "s", Kids: []int{0}}, {Kind: impl.NSystem, Text: "t", Kids: []int{1}}}, Tops: []int{2, 3}},
		"a system in a system":       treeOf(systemPlant("s", systemPlant("t"))),
		"a block as a statement":     treeOf(systemPlant("s", blockPlant())),
		"an expression by itself":    treeOf(systemPlant("s", wholeLeaf(1))),
		"a do of no call":            treeOf(systemPlant("s", grown(impl.NDo, wholeLeaf(1)))),
		"a pick of nothing":          treeOf(valueOf(pickPlant(wholeLeaf(1)))),
		"an each with nothing":       treeOf(systemPlant("s", eachPlant(nil, []string{"A"}))),
		"a system of a word's name":  treeOf(systemPlant("kill")),
		"a system with parameters":   treeOf(named(impl.NSystem, "s", leaf(impl.NParam, "p", impl.KInt), blockPlant())),
		"a block ahead of its param": treeOf(named(impl.NFn, "f", blockPlant(), leaf(impl.NParam, "p", impl.KInt))),
		"a function of no kind":      treeOf(fnPlant("f", 0, blockPlant())),
		"a number below 0":           treeOf(valueOf(wholeLeaf(-1))),
		"a number of 16 digits":      treeOf(valueOf(wholeLeaf(1000000000000000))),
		"a real number as a whole":   treeOf(valueOf(realLeaf("1"))),
		"a whole number with a text": treeOf(valueOf(leaf(impl.NInt, "1", 1))),
		"an else by itself":          treeOf(systemPlant("s", grown(impl.NIf, yesLeaf(1)))),
		"three blocks":               treeOf(systemPlant("s", grown(impl.NIf, yesLeaf(1), blockPlant(), blockPlant(), blockPlant()))),
	} {
		refusedTree(t, what, x)
	}
	if !impl.TreeOk(impl.Tree{Nodes: []impl.Node{}, Tops: []int{}}) || !impl.TreeOk(treeOf(systemPlant("s"), systemPlant("s"))) {
		t.Error("right ones are refused")
	}
}

// Trees by chance with a few changes by chance.
func TestAnyWrongTrees(t *testing.T) {
	j := newTreeJudge()
	g := &gardener{dice(3434)}
	rights, wrongs := 0, 0
	for range 20000 {
		x := treeOf(g.tops(2, 2)...)
		for range g.roll(3) {
			if len(x.Nodes) > 0 {
				g.spoil(&x)
			}
		}
		if j.holds(t, "by chance", x) {
			rights++
			if s, _ := impl.Print(x); len(s) <= impl.MaxText {
				printedBack(t, x)
			}
		} else {
			wrongs++
		}
	}
	if rights < 2000 || wrongs < 2000 {
		t.Error("right", rights, "wrong", wrongs)
	}
}

func (g *gardener) spoil(x *impl.Tree) {
	n := &x.Nodes[g.roll(len(x.Nodes))]
	switch g.roll(6) {
	case 0:
		n.Kind = g.roll(37) - 1
	case 1:
		n.I = g.roll(12) - 1
	case 2:
		n.Text = oddTexts[g.roll(20)]
	case 3:
		n.Text = g.name()
	case 4:
		if len(n.Kids) > 0 {
			n.Kids[g.roll(len(n.Kids))] = g.roll(len(x.Nodes)+2) - 1
		}
	case 5:
		n.Kids = append(n.Kids, g.roll(len(x.Nodes)+2)-1)
	}
}

// MaxNodes nodes are right, in whatever form, and one more is not.
func TestMostNodes(t *testing.T) {
	kills := func(n int) *plant {
		return systemPlant("s", slices.Repeat([]*plant{grown(impl.NKill)}, n-2)...)
	}
	signs := func(n int) *plant {
		e := wholeLeaf(1)
		for range n - 4 {
			e = turnPlant(impl.TurnNot, e)
		}
		return valueOf(e)
	}
	blocks := func(n int) *plant {
		p := blockPlant(slices.Repeat([]*plant{grown(impl.NKill)}, (n-2)%3)...)
		for range (n - 2) / 3 {
			p = blockPlant(grown(impl.NLoop, wholeLeaf(1), p))
		}
		return named(impl.NSystem, "s", p)
	}
	sums := func(n int) *plant {
		e := wholeLeaf(1)
		for range (n - 4) / 2 {
			e = opPlant(impl.OpAdd, e, localLeaf("abcdefghijkl"))
		}
		s := valueOf(e)
		if n%2 == 1 {
			s.kids[0].kids = append(s.kids[0].kids, grown(impl.NKill))
		}
		return s
	}
	names := func(n int) *plant {
		return systemPlant("s", eachPlant(slices.Repeat([]string{"abcdefghijkl"}, n-6), nil))
	}
	for i, grow := range []func(int) *plant{kills, signs, blocks, sums, names} {
		for n := impl.MaxNodes - 2; n <= impl.MaxNodes+2; n++ {
			x := treeOf(grow(n))
			if len(x.Nodes) != n {
				t.Fatal("form", i, "has", len(x.Nodes), "nodes, not", n)
			}
			if n > impl.MaxNodes {
				refusedTree(t, "one more than MaxNodes", x)
				continue
			}
			text, ok := impl.Print(x)
			if !impl.TreeOk(x) || !ok || text != (pen{all: true}).textOf(grow(n)) {
				t.Error("form", i, "with", n, "nodes is printed:", ok, len(text))
			}
			readRefused(t, text, impl.ParLex, 0)
		}
	}
	many := impl.Tree{Nodes: make([]impl.Node, 1000000), Tops: make([]int, 1000000)}
	refusedTree(t, "a million nodes", many)
	refusedTree(t, "a million tops", impl.Tree{Tops: many.Tops})
	refusedTree(t, "a million kids", impl.Tree{Nodes: []impl.Node{{Kind: impl.NBlock, Kids: many.Tops}, {Kind: impl.NSystem, Text: "s", Kids: []int{0}}}, Tops: []int{1}})
}

// Nesting is no matter of TreeOk.
func TestDeepTreesAreRight(t *testing.T) {
	e := localLeaf("a")
	for range 45 {
		e = turnPlant(impl.TurnNeg, e)
	}
	x := treeOf(valueOf(e))
	text, ok := impl.Print(x)
	if !impl.TreeOk(x) || !ok || text != asValue(strings.Repeat("( - ", 45)+"a"+strings.Repeat(" )", 45))+"\n" {
		t.Errorf("a deep tree: %v %q", ok, text)
	}
	// Two of each pair, the parenthesis's expression and the sign: the 20th
	// pair's sign is the first within MaxDepth others.
	readRefused(t, text, impl.ParDeep, len("system s { x = ")+19*4+2)
}

func TestTreeSame(t *testing.T) {
	list := everyKind()
	for i, a := range list {
		for k, b := range list {
			if impl.TreeSame(a, b) != sameTree(a, b) || impl.TreeSame(a, cloneTree(b)) != sameTree(a, b) {
				t.Fatal("TreeSame", i, k)
			}
		}
	}
}

// TreeSame sees each number and each text, of trees that are not right, too.
func TestTreeSameSeesAll(t *testing.T) {
	wrong := impl.Tree{Nodes: []impl.Node{{Kind: 99, Text: "?", I: -5, Kids: []int{7, -7, 7}}, {}, {Kids: []int{0}}}, Tops: []int{9, 9, -1}}
	for _, x := range append(everyKind(), wrong) {
		if !impl.TreeSame(x, x) || !impl.TreeSame(x, cloneTree(x)) {
			t.Error("not the same as itself", x)
		}
		var changed []impl.Tree
		change := func(step func(y *impl.Tree)) {
			y := cloneTree(x)
			step(&y)
			changed = append(changed, y)
		}
		for i := range x.Nodes {
			change(func(y *impl.Tree) { y.Nodes[i].Kind++ })
			change(func(y *impl.Tree) { y.Nodes[i].I-- })
			change(func(y *impl.Tree) { y.Nodes[i].Text += "a" })
			change(func(y *impl.Tree) { y.Nodes[i].Kids = append(y.Nodes[i].Kids, 0) })
			change(func(y *impl.Tree) { y.Nodes = slices.Delete(y.Nodes, i, i+1) })
			for k := range x.Nodes[i].Kids {
				change(func(y *impl.Tree) { y.Nodes[i].Kids[k]++ })
				change(func(y *impl.Tree) { y.Nodes[i].Kids = slices.Delete(y.Nodes[i].Kids, k, k+1) })
			}
		}
		for i := range x.Tops {
			change(func(y *impl.Tree) { y.Tops[i]-- })
			change(func(y *impl.Tree) { y.Tops = slices.Delete(y.Tops, i, i+1) })
		}
		change(func(y *impl.Tree) { y.Tops = append(y.Tops, 0) })
		change(func(y *impl.Tree) { y.Nodes = append(y.Nodes, impl.Node{}) })
		for _, y := range changed {
			if impl.TreeSame(x, y) || impl.TreeSame(y, x) {
				t.Errorf("%v and %v are taken for the same", x, y)
			}
		}
	}
	if !impl.TreeSame(impl.Tree{}, impl.Tree{Nodes: []impl.Node{}, Tops: []int{}}) {
		t.Error("an empty list is not nil")
	}
	if !impl.TreeSame(impl.Tree{Nodes: []impl.Node{{Kids: []int{}}}}, impl.Tree{Nodes: []impl.Node{{}}}) {
		t.Error("empty kids are not nil")
	}
}
