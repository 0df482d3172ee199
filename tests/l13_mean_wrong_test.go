package tests

import (
	"strings"
	"testing"

	"loop.example/g00070/impl"
)

// wrongFuels holds those that are none, and rightFuels the edges of the others.
var wrongFuels = []int{-1, -2, leastInt, impl.MaxFuel + 1, impl.MaxFuel + 2, 1 << 32, mostInt}
var rightFuels = []int{0, 1, 9, impl.MaxFuel}

func TestMeaningWithWrongFuel(t *testing.T) {
	x := checked(t, "system s { $Score = 5; spawn(); }")
	for _, fuel := range wrongFuels {
		for _, s := range []impl.State{runState(), fullState(), oneThing()} {
			refusedMean(t, "fuel", checkReg(), x, "s", s, fuel)
		}
	}
	for _, fuel := range []int{2, 3, impl.MaxFuel - 1, impl.MaxFuel} {
		if d := impl.Mean(checkReg(), x, "s", runState(), fuel); d.Fault != impl.FaultNone || d.Steps != 2 || len(d.Cmds) != 1 {
			t.Error("fuel", fuel, doneText(d))
		}
	}
}

func TestMeaningOfNoSystem(t *testing.T) {
	x := checked(t, "fn f(p int) int { let a = p; return a; } system s { let b = f(1); hear Hit as h { $Score = h; } each with Hp { .Hp = 1; } spawn(Mp = 2); }")
	for _, fuel := range rightFuels {
		for _, name := range []string{
			"", "f", "p", "a", "b", "h", "Hit", "Score", "Hp", "Mp", "S", "F", "ss", "s ", " s", "fn", "system", "f\x00", "s\x00", "abcdefghijklmnopqrstuvwxyz", "\xff", strings.Repeat("s", 100000),
		} {
			refusedMean(t, "no system", checkReg(), x, name, runState(), fuel)
		}
		for _, name := range []string{"", "s"} {
			refusedMean(t, "no tops at all", checkReg(), impl.Tree{}, name, runState(), fuel)
			refusedMean(t, "nothing at all", impl.Reg{}, impl.Tree{}, name, impl.State{}, fuel)
		}
		y := checked(t, "fn f() int { return 1; } fn g() int { return f(); }")
		for _, name := range []string{"", "f", "g", "s"} {
			refusedMean(t, "functions alone", checkReg(), y, name, runState(), fuel)
		}
		// what is no name at all is the name of no system, also in a tree that has it
		for _, name := range []string{"", "aa1", "if", "abcdefghijklm"} {
			refusedMean(t, "a name that is none", checkReg(), treeOf(systemPlant(name)), name, runState(), fuel)
		}
	}
	// the one that is asked for, of several
	y := checked(t, "system a { $Score = 1; } system b { $Score = 2; } fn c() int { return 3; } system d { $Score = c(); }")
	for name, want := range map[string]int{"a": 1, "b": 2, "d": 3} {
		if d := impl.Mean(checkReg(), y, name, runState(), 9); d.Fault != impl.FaultNone || d.State.World.Res[0] != whole(want) {
			t.Error("system", name, doneText(d))
		}
	}
	refusedMean(t, "the function of several", checkReg(), y, "c", runState(), 9)
	// nothing at all is a right state, and a system without a statement is done
	if d := impl.Mean(impl.Reg{}, treeOf(systemPlant("s")), "s", impl.State{}, 0); !sameDone(d, impl.Done{}) {
		t.Error("nothing", doneText(d))
	}
}

// A tree with each code of Check, whichever top has the fault.
func TestMeaningOfTreesThatMayNotRun(t *testing.T) {
	met := map[int]int{}
	for _, fault := range faultyTops {
		for _, text := range []string{"fn f(n int) int { $Score = n; return n; } system s { $Wind = 1.5; } " + fault, fault + " fn f(n int) int { return n; } system s { $Wind = 1.5; }", "fn f(n int) int { return n; } " + fault + " system s { }"} {
			x := parsedTree(t, text)
			code, _ := impl.Check(checkReg(), x)
			met[code]++
			for _, name := range []string{"f", "s", "q", "g", "k", "", "none"} {
				refusedMean(t, text, checkReg(), x, name, runState(), 50)
			}
			refusedMean(t, text, checkReg(), x, "s", runState(), 0)
			refusedMean(t, text, checkReg(), x, "s", runState(), impl.MaxFuel)
		}
	}
	for code := impl.ChkTwice; code <= impl.ChkArgs; code++ {
		if met[code] == 0 {
			t.Error("no tree has the code", code)
		}
	}
	if met[impl.ChkDone] > 0 {
		t.Error("some trees have no fault")
	}
	// texts by chance that are marred
	w := newAuthor(138)
	d := dice(139)
	count := 0
	for range 400 {
		x := treeOf(w.mar(w.text(4, 2))...)
		code, _ := impl.Check(checkReg(), x)
		s := anyState(&d, checkReg())
		for _, name := range systemsOf(x) {
			if code != impl.ChkDone {
				count++
				refusedMean(t, "marred", checkReg(), x, name, s, d.roll(impl.MaxFuel))
			}
		}
	}
	if count < 100 {
		t.Error("too few were marred:", count)
	}
}

// Trees and Regs that are not right themselves.
func TestMeaningOfWrongTrees(t *testing.T) {
	right := parsedTree(t, "system s { $Score = 1; spawn(); }")
	wrongs := []impl.Tree{{Tops: []int{0}}, {Nodes: []impl.Node{{}}}, {Nodes: right.Nodes}, {Nodes: right.Nodes, Tops: []int{len(right.Nodes)}}, {Nodes: right.Nodes, Tops: []int{-1}}, {Nodes: make([]impl.Node, impl.MaxNodes+1)}}
	for i := range right.Nodes {
		x, y, z := cloneTree(right), cloneTree(right), cloneTree(right)
		x.Nodes[i].Kind = 0
		y.Nodes[i].Kids = append(y.Nodes[i].Kids, i)
		z.Nodes[i].I = -1
		wrongs = append(wrongs, x, y, z)
	}
	for _, x := range append(wrongs, memoryTrees()...) {
		if code, _ := impl.Check(checkReg(), x); code == impl.ChkDone && len(systemsOf(x)) > 0 {
			continue
		}
		for _, name := range []string{"s", "", "Score"} {
			refusedMean(t, "a wrong tree", checkReg(), x, name, runState(), 50)
		}
	}
	for _, r := range wrongRegs() {
		for _, x := range []impl.Tree{right, {}, treeOf(systemPlant("s")), wrongs[0]} {
			refusedMean(t, "a wrong Reg", r, x, "s", runState(), 50)
			refusedMean(t, "a wrong Reg", r, x, "s", impl.State{}, 50)
		}
	}
	for _, r := range rightRegs() {
		s := impl.State{World: impl.NewWorld(r), Streams: make([]impl.Stream, len(r.Evts)), Cursors: make([]int, len(r.Evts))}
		if d := impl.Mean(r, treeOf(systemPlant("s")), "s", s, 0); !sameDone(d, impl.Done{State: s}) {
			t.Error("a right Reg", doneText(d))
		}
	}
	// a Reg that has not the names, or has them of another kind
	for _, r := range []impl.Reg{{}, worldReg(), {Comps: checkReg().Ress}, {Ress: []impl.Decl{decl("Score", impl.KReal)}}} {
		s := impl.State{World: impl.NewWorld(r), Streams: make([]impl.Stream, len(r.Evts)), Cursors: make([]int, len(r.Evts))}
		if code, _ := impl.Check(r, right); code != impl.ChkDone {
			refusedMean(t, "another Reg", r, right, "s", s, 50)
		}
	}
}

func TestMeaningOfWrongStates(t *testing.T) {
	plain, more := treeOf(systemPlant("s")), parsedTree(t, "system s { spawn(); let a = 1; }")
	for _, c := range wrongStates() {
		for _, x := range []impl.Tree{plain, more} {
			for _, fuel := range []int{0, 50, impl.MaxFuel, -1, impl.MaxFuel + 1} {
				refusedMean(t, c.what, c.r, x, "s", c.s, fuel)
			}
			refusedMean(t, c.what, c.r, x, "none", c.s, 50)
		}
		refusedMean(t, c.what, c.r, impl.Tree{Tops: []int{5}}, "s", c.s, 50)
	}
	// a right state by another Reg
	other := impl.State{World: handWorld(), Streams: make([]impl.Stream, 1), Cursors: []int{0}}
	refusedMean(t, "another Reg's state", checkReg(), plain, "s", other, 50)
	refusedMean(t, "another Reg's state", worldReg(), plain, "s", runState(), 50)
	if d := impl.Mean(worldReg(), plain, "s", other, 50); !sameDone(d, impl.Done{State: other}) {
		t.Error("its own Reg", doneText(d))
	}
}

// Any numbers in any place: nothing panics, and what may not run is handed back.
func TestMeaningOfStrangeTrees(t *testing.T) {
	g := &gardener{dice(140)}
	ran := 0
	for range 1500 {
		x := treeOf(g.tops(3, 3)...)
		if len(x.Nodes) > 0 && g.roll(2) == 0 {
			g.spoil(&x)
		}
		fuel := []int{-1, 0, 5, impl.MaxFuel, impl.MaxFuel + 1}[g.roll(5)]
		for _, name := range []string{someNames[0], someNames[1], someNames[2], "s"} {
			d := impl.Mean(checkReg(), x, name, runState(), fuel)
			p, ok := impl.Compile(checkReg(), x, name)
			if !ok {
				refusedMean(t, "strange", checkReg(), x, name, runState(), fuel)
				continue
			}
			ran++
			if !sameDone(d, impl.Machine(checkReg(), p, runState(), fuel)) {
				t.Fatal("not what the machine leaves", doneText(d))
			}
		}
	}
	if ran == 0 {
		t.Error("none of them may run")
	}
}
