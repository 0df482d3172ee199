package tests

import (
	"slices"
	"testing"

	"loop.example/g00070/impl"
)

// effectsOf is the effects of all tops by their names.
func effectsOf(t *testing.T, r impl.Reg, x impl.Tree) map[string]impl.Effect {
	t.Helper()
	all := map[string]impl.Effect{}
	for _, top := range x.Tops {
		name := x.Nodes[top].Text
		e, ok := impl.Effects(r, x, name)
		if !ok {
			text, _ := impl.Print(x)
			t.Fatalf("no effect of %s: %s", name, text)
		}
		all[name] = e
	}
	return all
}

// Texts by chance: the effect is the one of a tally, it holds that of each
// function that is reached, and it is what these and the top's own nodes have
// together, and nothing else.
func TestAnyEffects(t *testing.T) {
	w := newAuthor(10)
	deepest := 0
	met := map[string]bool{}
	for range 1200 {
		x := treeOf(w.text(6, 2)...)
		if len(x.Nodes) > 400 {
			continue
		}
		tallied(t, w.r, x)
		a := tally{newAudit(w.r, x)}
		all := effectsOf(t, w.r, x)
		for _, top := range x.Tops {
			name := x.Nodes[top].Text
			tops := a.reached(top)
			deepest = max(deepest, len(tops))
			joint := impl.Effect{}
			for other := range tops {
				e := all[x.Nodes[other].Text]
				if !impl.EffWithin(e, all[name]) {
					t.Fatalf("%s has %q, %s that it comes to has %q", name, effText(all[name]), x.Nodes[other].Text, effText(e))
				}
				joint = impl.EffJoin(joint, e)
			}
			if effText(joint) != effText(all[name]) {
				t.Fatalf("%s has %q, all that it comes to %q", name, effText(all[name]), effText(joint))
			}
			for i, list := range effLists(&joint) {
				if len(*list) > 0 {
					met[effNames[i]] = true
				}
			}
		}
	}
	if deepest < 4 || len(met) != len(effNames) {
		t.Error("too few were met:", deepest, met)
	}
}

// One more right function behind: the tree stays checked, and its effects
// stay. So they do with one more system.
func TestEffectsWithOneMoreTopBehind(t *testing.T) {
	w := newAuthor(101)
	behind := []string{
		"fn more() int { return 1; }", touching, "system more { each with Hp, Mp without On { .Hp = .Mp; kill; } hear Hit as h { $Score = h; emit Hit h; } }",
		"fn more(a int) int { $Score = a; $Wind = $Wind; emit Went $Over; spawn(Hp = a, Up = yes); return a; }",
	}
	texts := []string{wholeText, "", "system s { }", "fn f() int { return $Score; } system s { do f(); }", "fn deeps() int { return 1; } system s { do deeps(); }"}
	for range 150 {
		texts = append(texts, pen{}.textOf(w.text(4, 2)...))
	}
	for _, text := range texts {
		x, code, _ := impl.Parse(text)
		if code != impl.ParDone || len(x.Nodes) > 300 {
			continue
		}
		before := effectsOf(t, checkReg(), x)
		for _, more := range behind {
			y := parsedTree(t, text+more)
			if code, node := impl.Check(checkReg(), y); code != impl.ChkDone {
				t.Fatalf("Check: %d %d with %q behind %s", code, node, more, text)
			}
			for name, e := range before {
				touches(t, checkReg(), y, name, effText(e))
			}
		}
		// a function that calls those that are there
		for name := range before {
			top := x.Nodes[impl.TopOf(x, name)]
			if top.Kind != impl.NFn || len(top.Kids) != 1 {
				continue
			}
			y := parsedTree(t, text+"fn more() int { do "+name+"(); return 1; }")
			for name, e := range before {
				touches(t, checkReg(), y, name, effText(e))
			}
			touches(t, checkReg(), y, "more", effText(before[name]))
		}
	}
}

// A function that nothing comes to can go, and effects stay.
func TestEffectsWithoutWhatIsNotReached(t *testing.T) {
	w := newAuthor(102)
	count := 0
	for range 400 {
		tops := w.text(5, 2)
		x := treeOf(tops...)
		if len(x.Nodes) > 300 {
			continue
		}
		a := tally{newAudit(w.r, x)}
		for i, top := range x.Tops {
			var left []*plant
			reached := a.reached(top)
			for j, other := range x.Tops {
				if reached[other] {
					left = append(left, tops[j])
				}
			}
			if len(left) == len(tops) {
				continue
			}
			count++
			e, _ := impl.Effects(w.r, x, tops[i].text)
			touches(t, w.r, treeOf(left...), tops[i].text, effText(e))
		}
	}
	if count < 300 {
		t.Error("too few:", count)
	}
}

// Effects do not hang on how a text is written.
func TestEffectsOfTextsWrittenInOtherWays(t *testing.T) {
	w := newAuthor(103)
	count := 0
	for range 200 {
		tops := w.text(3, 2)
		x := treeOf(tops...)
		if len(x.Nodes) > 100 {
			continue
		}
		printed, _ := impl.Print(x)
		for _, text := range []string{printed, pen{}.textOf(tops...), spread(&w.dice, pen{extra: &w.dice}.textOf(tops...))} {
			y, code, _ := impl.Parse(text)
			if code != impl.ParDone {
				continue
			}
			count++
			for name, e := range effectsOf(t, w.r, x) {
				touches(t, w.r, y, name, effText(e))
			}
		}
	}
	if count < 200 {
		t.Error("too few texts:", count)
	}
}

// Trees with a fault, and some that may run all the same: an effect is told
// just if the check is done and there is such a top.
func TestEffectsOfMarredTexts(t *testing.T) {
	w := newAuthor(104)
	runs, faults := 0, 0
	for range 1500 {
		x := treeOf(w.mar(w.text(3, 2))...)
		code, _ := impl.Check(w.r, x)
		if code == impl.ChkDone {
			runs++
			tallied(t, w.r, x)
			continue
		}
		faults++
		for _, top := range x.Tops {
			untouched(t, "a tree with a fault", w.r, x, x.Nodes[top].Text)
		}
	}
	if runs < 100 || faults < 300 {
		t.Error("too few:", runs, faults)
	}
}

// inEither tells whether a number stands in one of the lists.
func inEither(n int, lists ...[]int) bool {
	return slices.ContainsFunc(lists, func(list []int) bool { return slices.Contains(list, n) })
}

// Any effects joined: each number of both, and none else, ascending; the join
// holds both; one holds another just if joining adds nothing.
func TestAnyJoins(t *testing.T) {
	d := dice(105)
	numbers := slices.Concat(strangeNumbers, []int{0, 1, 2, 3, 4})
	within := 0
	for range 20000 {
		a, b := anyEffect(&d, strangeNumbers), anyEffect(&d, strangeNumbers)
		if d.roll(3) == 0 {
			b = impl.EffJoin(b, a)
		}
		e := impl.EffJoin(a, b)
		holds := (b.Spawns || !a.Spawns) && (b.Kills || !a.Kills)
		for i, list := range effLists(&e) {
			ofA, ofB := *effLists(&a)[i], *effLists(&b)[i]
			for _, n := range numbers {
				if slices.Contains(*list, n) != inEither(n, ofA, ofB) {
					t.Fatalf("%d in the join of %q and %q: %q", n, effText(a), effText(b), effText(e))
				}
				holds = holds && (!slices.Contains(ofA, n) || slices.Contains(ofB, n))
			}
			if !slices.IsSorted(*list) || len(slices.Compact(slices.Clone(*list))) != len(*list) {
				t.Fatalf("not ascending: %q", effText(e))
			}
		}
		if e.Spawns != (a.Spawns || b.Spawns) || e.Kills != (a.Kills || b.Kills) {
			t.Fatal("flags of a join:", effText(a), effText(b), effText(e))
		}
		if !impl.EffWithin(a, e) || !impl.EffWithin(b, e) || !impl.EffWithin(e, e) || impl.EffWithin(a, b) != holds || impl.EffWithin(e, b) != holds {
			t.Fatalf("EffWithin of %q in %q is not %v", effText(a), effText(b), holds)
		}
		if holds {
			within++
		}
		if impl.Commands(e) != (impl.Commands(a) || impl.Commands(b)) {
			t.Fatal("Commands of a join:", effText(e))
		}
	}
	if within < 3000 || within > 17000 {
		t.Error("too few of one kind:", within)
	}
}

// Any effects by any Reg: EffectOk is what the chapter says of each list.
func TestAnyEffectOk(t *testing.T) {
	d := dice(106)
	right := 0
	for range 20000 {
		r := impl.Reg{Comps: decls("C", d.roll(6)), Ress: decls("R", d.roll(6)), Evts: decls("V", d.roll(6))}
		e := anyEffect(&d, strangeNumbers[:3])
		if d.roll(2) == 0 {
			e = impl.EffJoin(e, impl.Effect{})
		}
		for _, list := range effLists(&e) {
			if d.roll(3) > 0 {
				*list = nil
			}
		}
		want := true
		for i, list := range effLists(&e) {
			for j, n := range *list {
				if n < 0 || n >= len(*listOf(&r, effSorts[i])) || j > 0 && n <= (*list)[j-1] {
					want = false
				}
			}
		}
		if impl.EffectOk(r, e) != want {
			t.Fatalf("EffectOk of %q is not %v: %v", effText(e), want, r)
		}
		if want {
			right++
		}
	}
	if right < 2000 || right > 18000 {
		t.Error("too few of one kind:", right)
	}
}
