package tests

import (
	"slices"
	"testing"

	"loop.example/g00070/impl"
)

// Right trees by chance, which no Check is asked about, and wrong ones.
func TestAnyTreesFolded(t *testing.T) {
	g := &gardener{dice(23)}
	less, same, wrong := 0, 0, 0
	for range 6000 {
		x := treeOf(g.tops(4, 3)...)
		if len(x.Nodes) > 0 && g.roll(3) == 0 {
			g.spoil(&x)
		}
		if !impl.TreeOk(x) {
			wrong++
			notFolded(t, "by chance", x)
			continue
		}
		want := plainFold(x)
		foldIs(t, x, want)
		sizesAre(t, x, countedSizes(x)...)
		if sameTree(x, want) {
			same++
		} else {
			less++
		}
	}
	if less < 500 || same < 500 || wrong < 500 {
		t.Error("too few of one sort: less", less, "same", same, "wrong", wrong)
	}
}

// Expressions of leaves alone, so that nearly all is folded.
func TestAnyLeavesFolded(t *testing.T) {
	d := dice(232)
	var grow func(deep int) *plant
	grow = func(deep int) *plant {
		switch d.roll(8) {
		case 0, 1, 2, 3:
			if deep > 0 {
				return opPlant(1+d.roll(9), grow(deep-1), grow(deep-1))
			}
		case 4, 5:
			if deep > 0 {
				return turnPlant(1+d.roll(2), grow(deep-1))
			}
		case 6:
			return yesLeaf(d.roll(2))
		}
		return wholeLeaf(oneOf(&d, []int{0, 1, 2, 3, 10, 4294967296, 999999999999999, d.roll(100)}))
	}
	alone, within := 0, 0
	for range 20000 {
		x := treeOf(valueOf(grow(1 + d.roll(5))))
		want := plainFold(x)
		foldIs(t, x, want)
		switch {
		case len(want.Nodes) == 4:
			alone++
		case len(want.Nodes) < len(x.Nodes):
			within++
		}
	}
	if alone < 3000 || within < 3000 {
		t.Error("too few:", alone, within)
	}
}

// Texts that may run: what is folded may run, too, and comes to the same tops,
// which are those that a tally tells.
func TestAnyTextsMadeSmaller(t *testing.T) {
	w := newAuthor(233)
	met := map[int]int{}
	less := 0
	for range 1500 {
		x := treeOf(w.text(7, 2)...)
		if len(x.Nodes) > 400 {
			continue
		}
		y := plainFold(x)
		foldIs(t, x, y)
		sizesAre(t, x, countedSizes(x)...)
		less += countIf(len(y.Nodes) < len(x.Nodes))
		if code, node := impl.Check(w.r, y); code != impl.ChkDone || node != -1 {
			text, _ := impl.Print(y)
			t.Fatalf("what is folded may not run: %d %d: %s", code, node, text)
		}
		a := tally{newAudit(w.r, x)}
		for _, top := range x.Tops {
			reached := a.reached(top)
			var kept []int
			for i, other := range x.Tops {
				if reached[other] {
					kept = append(kept, i)
				}
			}
			met[len(kept)]++
			pruneIs(t, w.r, x, x.Nodes[top].Text, kept)
			pruneIs(t, w.r, y, x.Nodes[top].Text, kept)
			smaller(t, w.r, x, x.Nodes[top].Text)
		}
		notPruned(t, "no top's name", w.r, x, "nope")
	}
	if less < 300 || met[1] < 300 || met[2] < 300 || met[3] < 100 || met[4] < 30 {
		t.Error("too few were met:", less, met)
	}
}

// Texts with a fault, and some that may run all the same.
func TestAnyMarredTextsMadeSmaller(t *testing.T) {
	w := newAuthor(234)
	runs, faults := 0, 0
	for range 1500 {
		x := treeOf(w.mar(w.text(4, 2))...)
		foldIs(t, x, plainFold(x))
		sizesAre(t, x, countedSizes(x)...)
		if code, _ := impl.Check(w.r, x); code == impl.ChkDone {
			runs++
			continue
		}
		faults++
		for _, top := range x.Tops {
			notPruned(t, "a text with a fault", w.r, x, x.Nodes[top].Text)
		}
	}
	if runs < 100 || faults < 300 {
		t.Error("too few:", runs, faults)
	}
}

// What is smaller means the same, on states by chance, step for step.
func TestAnySmallerTextMeansTheSame(t *testing.T) {
	w := newAuthor(235)
	d := dice(236)
	met, less := map[int]int{}, 0
	for range 900 {
		x := treeOf(w.text(6, 3)...)
		if len(x.Nodes) > 400 {
			continue
		}
		s := anyState(&d, checkReg())
		for _, name := range systemsOf(x) {
			steps := impl.Mean(checkReg(), x, name, s, impl.MaxFuel).Steps
			fuels := someFuels(steps)
			if steps <= 30 {
				fuels = upTo(steps + 2)
			}
			met[meansTheSame(t, checkReg(), x, name, s, fuels).Fault]++
			few, _ := impl.Prune(checkReg(), x, name)
			small, _ := impl.Fold(few)
			less += countIf(len(small.Nodes) < len(few.Nodes) && len(few.Nodes) < len(x.Nodes))
		}
	}
	if met[impl.FaultNone] < 250 || met[impl.FaultZero] < 30 || met[impl.FaultFull] < 10 || less < 100 {
		t.Error("too few were met:", met, less)
	}
}

// What is printed of a smaller tree is read as that.
func TestAnySmallerTreesPrinted(t *testing.T) {
	w := newAuthor(237)
	count := 0
	for range 300 {
		x := treeOf(w.text(5, 2)...)
		for _, top := range x.Tops {
			for _, y := range smaller(t, w.r, x, x.Nodes[top].Text) {
				deepest := 0
				for _, p := range plantsIn(y) {
					deepest = max(deepest, nested(p, 0))
				}
				if text, _ := impl.Print(y); len(text) <= impl.MaxText && deepest <= impl.MaxDepth {
					printedBack(t, y)
					count++
				}
			}
		}
	}
	if count < 500 {
		t.Error("too few texts:", count)
	}
}

// The tests' own folding folds nothing where nothing can be folded, and comes
// to one end whichever operation is folded first.
func TestPlainFoldFromBehind(t *testing.T) {
	g := &gardener{dice(238)}
	var foldsLast func(p *plant) bool
	foldsLast = func(p *plant) bool {
		for _, kid := range slices.Backward(p.kids) {
			if foldsLast(kid) {
				return true
			}
		}
		now := comesTo(p)
		if now != nil {
			*p = *now
		}
		return now != nil
	}
	for range 2000 {
		x := treeOf(g.tops(3, 2)...)
		tops := plantsIn(x)
		for slices.ContainsFunc(tops, foldsLast) {
		}
		if !sameTree(treeOf(tops...), plainFold(x)) {
			t.Fatal("two ends of", firstNodes(x))
		}
	}
}
