package tests

import (
	"testing"

	"loop.example/g00070/impl"
)

// memoryTexts holds texts that end by themselves, and such as do not.
func memoryTexts(t *testing.T) []impl.Tree {
	var list []impl.Tree
	for _, text := range []string{
		"", "system s { }", "fn s() int { return 1; }", "system s { kill; }", everyText,
		"system s { loop 5000 { } }", "system s { $Score = 1; $Score = 1 / 0; }",
		"system s { let a = 5; $Score = a; $Home = pair(2.5, 3.5); }",
		"system s { each with Hp { spawn(Hp = .Hp, Mass = 2.5); .Hp = 3; put Mp = .Hp; drop Hp; kill; spawn(); } }",
		"fn f(n int) int { spawn(Hp = n, Mp = n); return n; } system s { loop 3 { spawn(Hp = f(1), Mp = f(2)); } }",
		"system s { hear Hit as h { emit Hit h; } hear Went as h { } }",
		"system s { loop 8 { emit Hit 4; hear Hit as h { } } }",
		"system s { loop 300 { emit Hit 4; emit Burn 1.5; } }",
		"system s { loop 61 { spawn(Hp = 1); } }",
	} {
		list = append(list, parsedTree(t, text))
	}
	return append(list, impl.Tree{Tops: []int{3}}, impl.Tree{Nodes: make([]impl.Node, impl.MaxNodes+1)})
}

// The arguments, with room behind each of their lists, are as they were behind
// each call, also when the answers' lists are written over; and answers are
// lists of their own.
func TestMeanLeavesTheArgumentsAlone(t *testing.T) {
	states := []regState{{"by hand", checkReg(), runState()}, {"nearly full", checkReg(), fullState()}, {"one thing", checkReg(), oneThing()}}
	for i, c := range wrongStates() {
		if i%9 == 0 {
			states = append(states, c)
		}
	}
	for _, c := range states {
		for i, x := range memoryTexts(t) {
			for _, fuel := range []int{-1, 0, 3, 50, impl.MaxFuel, impl.MaxFuel + 1} {
				var g guards
				var s stamps
				r, tree, state := g.roomyReg(c.r), g.roomyTree(x), g.roomyState(c.s)
				want := impl.Mean(c.r, x, "s", c.s, fuel)
				d, again := impl.Mean(r, tree, "s", state, fuel), impl.Mean(r, tree, "s", state, fuel)
				if !sameDone(d, want) || !sameDone(again, want) {
					t.Fatal("spare room is looked at, or something is kept from call to call", c.what, i, fuel)
				}
				s.done(d)
				if !sameDone(again, want) {
					t.Fatal("two answers share memory", c.what, i, fuel)
				}
				s.done(again)
				if !g.kept() {
					t.Fatal("an argument was written into, or shares memory with an answer", c.what, i, fuel)
				}
				if !s.kept() {
					t.Fatal("two lists of an answer share memory", c.what, i, fuel)
				}
				if third := impl.Mean(r, tree, "s", state, fuel); !sameDone(third, want) {
					t.Fatal("the third answer is another one", c.what, i, fuel)
				}
			}
		}
	}
}

func TestAnyMeanLeavesTheArgumentsAlone(t *testing.T) {
	w := newAuthor(141)
	d := dice(142)
	for i := range 200 {
		x := treeOf(w.text(4, 2)...)
		c := anyState(&d, checkReg())
		for _, name := range systemsOf(x) {
			var g guards
			var s stamps
			want := impl.Mean(checkReg(), x, name, c, impl.MaxFuel)
			have := impl.Mean(g.roomyReg(checkReg()), g.roomyTree(x), name, g.roomyState(c), impl.MaxFuel)
			if !sameDone(have, want) {
				t.Fatal("spare room is looked at", i, name)
			}
			s.done(have)
			if !g.kept() || !s.kept() {
				t.Fatal("an argument was written into, or memory is shared", i, name)
			}
		}
	}
}

// Lists of one argument may lie in one memory; an answer's may not.
func TestMeanOfArgumentsThatShare(t *testing.T) {
	events, nums := numbered(0, 6), []int{0, 1, 0, 1}
	r := impl.Reg{
		Comps: []impl.Decl{decl("A", impl.KInt), decl("B", impl.KInt)},
		Ress:  []impl.Decl{decl("C", impl.KInt), decl("F", impl.KInt)},
		Evts:  []impl.Decl{decl("D", impl.KInt), decl("E", impl.KInt)},
	}
	s := impl.State{
		World: impl.World{
			Ents:   impl.Ents{Gens: nums[:3]},
			Tables: []impl.Table{{Cols: nums[:2], Rows: []impl.Ent{ent(0, 0), ent(1, 1)}, Cells: [][]impl.Val{events[:2], events[:2]}}, {Cols: nums[:1], Rows: []impl.Ent{ent(2, 0)}, Cells: [][]impl.Val{events[2:3]}}},
			Res:    events[:2],
		},
		Streams: []impl.Stream{stream(0, events[:3], events[1:]), stream(2, events, events[:2])},
		Cursors: nums[:2],
	}
	x := parsedTree(t, "system s { each with A { .A = .A * 10 + 7; $C = .A; } emit D $F; hear E as e { $F = $F + e; } spawn(A = 3, B = $F); spawn(B = 1, A = $C); emit E 8; }")
	was := cloneState(s)
	want := newReading(t, r, x, "s", was).atEachFuel(t)
	c := newReading(t, r, x, "s", s)
	d := c.atEachFuel(t)
	if want.Fault != impl.FaultNone || !sameDone(d, want) || !sameState(s, was) {
		t.Error("shared lists are run in another way", doneText(d), doneText(want))
	}
	var st stamps
	st.done(d)
	if !st.kept() || !sameState(s, was) || nums[0] != 0 || nums[1] != 1 {
		t.Error("memory is shared")
	}
	// and the Kids of one tree
	kids := []int{0, 1, 2, 3}
	y := impl.Tree{
		Nodes: []impl.Node{{Kind: impl.NInt, I: 9}, {Kind: impl.NSetRes, Text: "C", Kids: kids[:1]}, {Kind: impl.NBlock, Kids: kids[1:2]}, {Kind: impl.NSystem, Text: "s", Kids: kids[2:3]}},
		Tops:  kids[3:],
	}
	if d := newReading(t, r, y, "s", s).at(t, 1); d.Fault != impl.FaultNone || d.State.World.Res[0] != whole(9) || d.State.World.Res[1] != whole(1) {
		t.Error("shared kids", doneText(d))
	}
	for i, n := range kids {
		if i != n {
			t.Error("written into", kids)
		}
	}
}
