package tests

import (
	"slices"
	"strings"
	"testing"

	"loop.example/g00070/impl"
)

func TestCodeOfNoSystem(t *testing.T) {
	x := checked(t, "fn f(p int) int { let a = p; return a; } system s { let b = f(1); hear Hit as h { $Score = h; } each with Hp { .Hp = 1; } spawn(Mp = 2); }")
	for _, name := range []string{
		"", "f", "p", "a", "b", "h", "Hit", "Score", "Hp", "Mp", "S", "F", "ss", "s ", " s", "fn", "system", "f\x00", "s\x00", "abcdefghijklmnopqrstuvwxyz", "\xff", strings.Repeat("s", 100000),
	} {
		notCompiled(t, "no system", checkReg(), x, name)
	}
	for _, name := range []string{"", "s"} {
		notCompiled(t, "no tops at all", checkReg(), impl.Tree{}, name)
		notCompiled(t, "nothing at all", impl.Reg{}, impl.Tree{}, name)
	}
	if _, ok := impl.Compile(checkReg(), x, "s"); !ok {
		t.Error("the system itself")
	}
	// functions alone
	x = checked(t, "fn f() int { return 1; } fn g() int { return f(); }")
	for _, name := range []string{"", "f", "g", "s"} {
		notCompiled(t, "functions alone", checkReg(), x, name)
	}
	// what is no name at all is the name of no system, also in a tree that has it
	for _, name := range []string{"", "a1", "if", "abcdefghijklm"} {
		notCompiled(t, "a name that is none", checkReg(), treeOf(systemPlant(name)), name)
	}
}

func TestCodeOfWrongArguments(t *testing.T) {
	right := parsedTree(t, "system s { $Score = 1; spawn(); }")
	wrongs := []impl.Tree{{Tops: []int{0}}, {Nodes: []impl.Node{{}}}, {Nodes: right.Nodes}, {Nodes: right.Nodes, Tops: []int{len(right.Nodes)}}, {Nodes: right.Nodes, Tops: []int{-1}}, {Nodes: make([]impl.Node, impl.MaxNodes+1)}}
	for i := range right.Nodes {
		x, y, z := cloneTree(right), cloneTree(right), cloneTree(right)
		x.Nodes[i].Kind = 0
		y.Nodes[i].Kids = append(y.Nodes[i].Kids, i)
		z.Nodes[i].I = -1
		wrongs = append(wrongs, x, y, z)
	}
	for _, name := range []string{"s", "", "Score"} {
		for _, x := range wrongs {
			notCompiled(t, "a wrong tree", checkReg(), x, name)
		}
		for _, r := range wrongRegs() {
			notCompiled(t, "a wrong Reg", r, right, name)
			notCompiled(t, "a wrong Reg", r, impl.Tree{}, name)
			notCompiled(t, "a wrong Reg", r, treeOf(systemPlant("s")), name)
			notCompiled(t, "a wrong Reg and a wrong tree", r, wrongs[0], name)
		}
	}
	for _, r := range rightRegs() {
		compiles(t, r, treeOf(systemPlant("s")), "s", impl.Program{Code: codeOf("End"), Starts: []int{0}, Slots: []int{0}})
	}
	compiles(t, checkReg(), right, "s", impl.Program{Code: codeOf("Tick, Push 1, SetRes 0, Tick, Spawn 0, End"), Starts: []int{0}, Slots: []int{0}, Lists: [][]int{nil}})
}

// faultyTops holds tops each of which has a fault behind a function f of one
// whole number, or ahead of it, and beside a system s.
var faultyTops = []string{
	"system s { }", "fn f() int { return 1; }", "fn g(a int, a int) int { return a; }", "system q { let a = 1; let a = 2; }",
	"system q { x = 1; }", "system q { $Nope = 1; }", "system q { hear Nope as h { } }", "fn g() int { return g(); }", "fn g() int { return k(); } fn k() int { return 1; }", "system q { do s(); }",
	"system q { $Score = yes; }", "fn g() int { return yes; }", "system q { if 1 { } }", "system q { loop yes { } }", "system q { do f(yes); }",
	"system q { kill; }", "fn g() int { }", "fn g() int { let a = 1; }", "system q { return 1; }", "fn g() int { each with Hp { } return 1; }", "fn g() int { hear Hit as h { } return 1; }",
	"system q { each with Hp { let a = .Mp; } }", "system q { each with Hp { each with Mp { } } }", "system q { hear Hit as h { hear Hit as i { } } }",
	"system q { do f(1, 2); }", "system q { do f(); }", "fn g() int { return f(1, 2); }",
}

// Each code of Check, by a fault in a top that the system does not call, ahead
// of it and behind it, and in the system itself.
func TestCodeOfTreesThatMayNotRun(t *testing.T) {
	met := map[int]int{}
	for _, fault := range faultyTops {
		for _, text := range []string{"fn f(n int) int { $Score = n; return n; } system s { $Wind = 1.5; } " + fault, fault + " fn f(n int) int { return n; } system s { $Wind = 1.5; }", "fn f(n int) int { return n; } " + fault + " system s { }"} {
			x := parsedTree(t, text)
			code, _ := impl.Check(checkReg(), x)
			if code == impl.ChkDone {
				t.Fatal("no fault:", text)
			}
			met[code]++
			for _, name := range []string{"f", "s", "q", "g", "k", "", "none"} {
				notCompiled(t, text, checkReg(), x, name)
			}
		}
	}
	for code := impl.ChkTwice; code <= impl.ChkArgs; code++ {
		if met[code] == 0 {
			t.Error("no tree has the code", code)
		}
	}
	// a Reg that has not the names
	x := checked(t, "fn f() int { return 1; } system s { $Score = f(); }")
	for _, r := range []impl.Reg{{}, someReg(), {Comps: checkReg().Ress}, {Ress: []impl.Decl{decl("Score", impl.KReal)}}} {
		code, _ := impl.Check(r, x)
		if p, ok := impl.Compile(r, x, "s"); ok != (code == impl.ChkDone) || !ok && !sameProgram(p, impl.Program{}) {
			t.Error("Compile with a check's code", code)
		}
	}
}

// program writes over all lists of an answer.
func (s *stamps) program(p impl.Program) {
	for _, list := range p.Lists {
		s.ints(list)
	}
	s.ints(p.Starts)
	s.ints(p.Slots)
	stamp(s, p.Code, func(n int) impl.Ins { return impl.Ins{Op: -1, A: n} }, func(one impl.Ins) int { return one.A })
	// what lies in Lists is told by where it lies
	marks := make([][]int, 0, cap(p.Lists))
	for range cap(p.Lists) {
		marks = append(marks, []int{-1})
	}
	whole := p.Lists[:cap(p.Lists)]
	copy(whole, marks)
	s.looks = append(s.looks, func() bool { return slices.EqualFunc(whole, marks, sameMemory) })
}

// The arguments, with room behind each of their lists, are as they were behind
// each call, and the answers are lists of their own.
func TestCompileLeavesTheArgumentsAlone(t *testing.T) {
	count := 0
	for i, c := range regTrees(116, 150, 4) {
		var g guards
		roomyReg, roomyTree := g.roomyReg(c.r), g.roomyTree(c.x)
		for _, name := range c.names {
			var s stamps
			want, wantOk := impl.Compile(c.r, c.x, name)
			was := cloneProgram(want)
			p, ok := impl.Compile(roomyReg, roomyTree, name)
			if ok != wantOk || !sameProgram(p, want) {
				t.Fatal("spare room is looked at, or something is kept from call to call", i, name)
			}
			if ok {
				count++
			}
			s.program(p)
			if !sameProgram(want, was) {
				t.Fatal("two answers share memory", i, name)
			}
			s.program(want)
			if again, _ := impl.Compile(c.r, c.x, name); !s.kept() || !sameProgram(again, was) {
				t.Fatal("two lists share memory, or the third answer is another one", i, name)
			}
		}
		if !g.kept() {
			t.Fatal("an argument was written into", i)
		}
	}
	if count < 100 {
		t.Error("too few programs:", count)
	}
}

// Kids of one argument may lie in one memory.
func TestCompileOfATreeThatSharesInTheArgument(t *testing.T) {
	nums := []int{0, 1, 2, 3}
	x := impl.Tree{
		Nodes: []impl.Node{{Kind: impl.NInt, I: 1}, {Kind: impl.NLet, Text: "a", Kids: nums[:1]}, {Kind: impl.NBlock, Kids: nums[1:2]}, {Kind: impl.NSystem, Text: "s", Kids: nums[2:3]}},
		Tops:  nums[3:],
	}
	compiles(t, checkReg(), x, "s", impl.Program{Code: codeOf("Tick, Push 1, Store 0, End"), Starts: []int{0}, Slots: []int{1}})
	for i, n := range nums {
		if i != n {
			t.Error("written into", nums)
		}
	}
}
