package tests

import (
	"slices"
	"testing"

	"loop.example/g00070/impl"
)

// Texts by chance: the code is that of a layout, and keeps to itself.
func TestAnyCode(t *testing.T) {
	w := newAuthor(11)
	met := map[int]bool{}
	systems, most := 0, 0
	for range 1500 {
		x := treeOf(w.text(6, 3)...)
		if len(x.Nodes) > 400 {
			continue
		}
		laidOut(t, w.r, x)
		for _, top := range x.Tops {
			if p, ok := impl.Compile(w.r, x, x.Nodes[top].Text); ok {
				systems++
				most = max(most, len(p.Starts))
				for _, one := range p.Code {
					met[one.Op] = true
				}
			}
		}
	}
	if systems < 700 || most < 5 || len(met) != impl.IEnd {
		t.Error("too few were met:", systems, most, met)
	}
}

// The code does not hang on how a text is written.
func TestCodeOfTextsWrittenInOtherWays(t *testing.T) {
	w := newAuthor(112)
	count := 0
	for range 300 {
		tops := w.text(4, 2)
		x := treeOf(tops...)
		if len(x.Nodes) > 120 {
			continue
		}
		printed, _ := impl.Print(x)
		for _, text := range []string{printed, pen{}.textOf(tops...), pen{all: true}.textOf(tops...), spread(&w.dice, pen{extra: &w.dice}.textOf(tops...))} {
			y, code, _ := impl.Parse(text)
			if code != impl.ParDone {
				continue
			}
			for _, top := range x.Tops {
				if p, ok := impl.Compile(w.r, x, x.Nodes[top].Text); ok {
					count++
					compiles(t, w.r, y, x.Nodes[top].Text, p)
				}
			}
		}
	}
	if count < 200 {
		t.Error("too few:", count)
	}
}

// A system's code is the same without the other systems, and wherever it
// stands behind what it calls; one more function adds its own code alone.
func TestCodeWithOtherTops(t *testing.T) {
	w := newAuthor(113)
	others, count := 0, 0
	for range 600 {
		tops := w.text(5, 2)
		x := treeOf(tops...)
		if len(x.Nodes) > 250 {
			continue
		}
		for _, system := range tops {
			p, ok := impl.Compile(w.r, x, system.text)
			if !ok {
				continue
			}
			alone := slices.DeleteFunc(slices.Clone(tops), func(q *plant) bool { return q.kind == impl.NSystem && q != system })
			others += len(tops) - len(alone)
			compiles(t, w.r, treeOf(alone...), system.text, p)
			i := slices.Index(alone, system)
			compiles(t, w.r, treeOf(append(slices.Delete(slices.Clone(alone), i, i+1), system)...), system.text, p)
			if y := treeOf(append(alone, fnPlant("more", impl.KInt, blockPlant(grown(impl.NReturn, wholeLeaf(9)))))...); !addsFunction(t, w.r, y, system.text, p) {
				t.Fatal("one more function behind changes more than it should")
			}
			count++
		}
	}
	if others < 100 || count < 300 {
		t.Error("too few:", others, count)
	}
}

// addsFunction tells whether the code is that of p with three instructions
// between the functions and the system.
func addsFunction(t *testing.T, r impl.Reg, x impl.Tree, name string, p impl.Program) bool {
	t.Helper()
	q, ok := impl.Compile(r, x, name)
	if !ok || len(q.Code) != len(p.Code)+3 || len(q.Starts) != len(p.Starts)+1 || len(q.Slots) != len(p.Slots)+1 {
		return false
	}
	own := len(p.Starts) - 1
	start := p.Starts[own]
	want := cloneProgram(p)
	want.Code = slices.Concat(p.Code[:start], codeOf("Tick, Push 9, Back"), movedCode(p.Code[start:], 3))
	want.Starts = append(want.Starts, start+3)
	want.Slots = slices.Insert(want.Slots, own, 0)
	return sameProgram(q, want)
}

// movedCode is code whose places are so much further behind.
func movedCode(code []impl.Ins, by int) []impl.Ins {
	code = slices.Clone(code)
	for i, one := range code {
		switch one.Op {
		case impl.IJump, impl.IUnless, impl.ILoop, impl.INext, impl.IMore:
			code[i].A += by
		}
	}
	return code
}

// Trees with a fault, and some that may run all the same: there is a program
// just if the check is done and there is such a system.
func TestCodeOfMarredTexts(t *testing.T) {
	w := newAuthor(114)
	runs, faults := 0, 0
	for range 2500 {
		x := treeOf(w.mar(w.text(3, 2))...)
		if code, _ := impl.Check(w.r, x); code == impl.ChkDone {
			runs++
			laidOut(t, w.r, x)
			continue
		}
		faults++
		for _, top := range x.Tops {
			notCompiled(t, "a tree with a fault", w.r, x, x.Nodes[top].Text)
		}
	}
	if runs < 200 || faults < 500 {
		t.Error("too few:", runs, faults)
	}
}

// Trees of any names, of which hardly one may run, and Regs of any kind.
func TestCodeOfAnyTrees(t *testing.T) {
	g := &gardener{dice(115)}
	regs := append(append(wrongRegs(), rightRegs()...), checkReg(), worldReg(), impl.Reg{})
	for i := range 3000 {
		x := treeOf(g.tops(3, 3)...)
		if g.roll(3) == 0 && len(x.Nodes) > 0 {
			g.spoil(&x)
		}
		r := regs[i%len(regs)]
		code, _ := impl.Check(r, x)
		for _, n := range x.Nodes {
			if code != impl.ChkDone || impl.TopOf(x, n.Text) < 0 {
				notCompiled(t, "any tree", r, x, n.Text)
			}
		}
		if code == impl.ChkDone {
			laidOut(t, r, x)
		}
	}
}
