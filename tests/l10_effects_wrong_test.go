package tests

import (
	"testing"

	"loop.example/g00070/impl"
)

func TestEffectsOfNoTop(t *testing.T) {
	x := checked(t, "fn f(p int) int { let a = p; return a; } system s { let b = f(1); hear Hit as h { $Score = h; } each with Hp { .Hp = 1; } }")
	for _, name := range []string{"", "p", "a", "b", "h", "Hit", "Score", "Hp", "S", "F", "ss", "s ", " s", "fn", "system", "f\x00", "abcdefghijklmnopqrstuvwxyz", "\xff"} {
		untouched(t, "no top", checkReg(), x, name)
	}
	for _, name := range []string{"", "s"} {
		untouched(t, "no tops at all", checkReg(), impl.Tree{}, name)
		untouched(t, "nothing at all", impl.Reg{}, impl.Tree{}, name)
	}
	touches(t, checkReg(), x, "f", "")
	touches(t, checkReg(), x, "s", "Write 0 Match 0 WriteRes 0 Hear 0")
}

func TestEffectsOfWrongArguments(t *testing.T) {
	right := parsedTree(t, "system s { $Score = 1; spawn(); }")
	wrongs := []impl.Tree{{Tops: []int{0}}, {Nodes: []impl.Node{{}}}, {Nodes: right.Nodes}, {Nodes: right.Nodes, Tops: []int{len(right.Nodes)}}, {Nodes: right.Nodes, Tops: []int{-1}}, {Nodes: make([]impl.Node, impl.MaxNodes+1)}}
	for i := range right.Nodes {
		x := cloneTree(right)
		x.Nodes[i].Kind = 0
		y := cloneTree(right)
		y.Nodes[i].Kids = append(y.Nodes[i].Kids, i)
		wrongs = append(wrongs, x, y)
	}
	for _, name := range []string{"s", "", "Score"} {
		for _, x := range wrongs {
			untouched(t, "a wrong tree", checkReg(), x, name)
		}
		for _, r := range wrongRegs() {
			untouched(t, "a wrong Reg", r, right, name)
			untouched(t, "a wrong Reg", r, impl.Tree{}, name)
			untouched(t, "a wrong Reg and a wrong tree", r, wrongs[0], name)
		}
	}
	touches(t, checkReg(), right, "s", "WriteRes 0 Spawns")
}

// A fault anywhere in the tree: nothing is told, not even of a top ahead of it.
func TestEffectsOfTreesThatMayNotRun(t *testing.T) {
	for _, fault := range []string{
		"system q { x = 1; }", "system q { $Nope = 1; }", "system q { kill; }", "system q { $Score = yes; }", "system s { }", "fn g() int { }",
		"fn g() int { return yes; }", "system q { do g(1); }", "system q { do s(); }", "fn f() int { return 1; }", "fn g() int { return g(); }",
		"fn g() int { return k(); } fn k() int { return 1; }", "system q { do f(1, 2); }", "system q { each with Hp { let a = .Mp; } }", "system q { hear Nope as h { } }",
	} {
		for _, text := range []string{"fn f(n int) int { $Score = n; return n; } system s { $Wind = 1.5; } " + fault, fault + " fn f(n int) int { return n; } system s { $Wind = 1.5; }"} {
			x := parsedTree(t, text)
			if code, _ := impl.Check(checkReg(), x); code == impl.ChkDone {
				continue // the fault hangs on what is ahead
			}
			for _, name := range []string{"f", "s", "q", "g", "k", "", "none"} {
				untouched(t, text, checkReg(), x, name)
			}
		}
	}
	// a Reg that has not the names
	x := checked(t, "fn f() int { return 1; } system s { $Score = f(); }")
	for _, r := range []impl.Reg{{}, someReg(), {Comps: checkReg().Ress}, {Ress: []impl.Decl{decl("Score", impl.KReal)}}} {
		code, _ := impl.Check(r, x)
		for _, name := range []string{"f", "s"} {
			if _, ok := impl.Effects(r, x, name); ok != (code == impl.ChkDone) {
				t.Error("Effects of", name, "with a check's code", code)
			}
		}
	}
}

// The numbers are those of the Reg that is handed in.
func TestEffectsByAnotherReg(t *testing.T) {
	x := checked(t, "system s { $Over = $Over; each with Hp, Up { .Up = yes; } }")
	touches(t, checkReg(), x, "s", "Write 7 Match 0 7 ReadRes 3 WriteRes 3")
	touches(t, impl.Reg{Comps: []impl.Decl{decl("Up", impl.KBool), decl("Hp", impl.KPair)}, Ress: []impl.Decl{decl("A", impl.KInt), decl("Over", impl.KReal)}}, x, "s", "Write 0 Match 0 1 ReadRes 1 WriteRes 1")
}

func TestEffectOkOfWrongRegs(t *testing.T) {
	for _, r := range wrongRegs() {
		for _, text := range []string{"", "Spawns Kills", "Read 0", "ReadRes 0", "Hear 0", "Read 12"} {
			if impl.EffectOk(r, effOf(text)) {
				t.Errorf("EffectOk of %q with a wrong Reg", text)
			}
		}
	}
	for _, r := range rightRegs() {
		if !impl.EffectOk(r, impl.Effect{}) || !impl.EffectOk(r, impl.Effect{Spawns: true, Kills: true}) {
			t.Error("EffectOk of no numbers with a right Reg")
		}
	}
}

// Lists that are longer than any set has room for.
func TestEffectsWithLongLists(t *testing.T) {
	long := make([]int, 30000)
	for i := range long {
		long[i] = (i*7919)%30000 - 15000
	}
	a, b := impl.Effect{Read: long, Add: long[:10]}, impl.Effect{Read: long[5:], Add: long}
	if impl.EffectOk(checkReg(), a) || impl.EffectOk(checkReg(), b) || impl.EffWithin(a, b) || impl.EffWithin(b, a) || !impl.EffWithin(a, a) || !impl.Commands(a) {
		t.Error("long lists")
	}
	e := impl.EffJoin(a, b)
	if len(e.Read) != 30000 || len(e.Add) != 30000 || !impl.EffWithin(a, e) || !impl.EffWithin(b, e) || impl.EffWithin(e, a) {
		t.Error("long lists joined:", len(e.Read), len(e.Add))
	}
	for i, n := range e.Read {
		if n != i-15000 {
			t.Fatal("not ascending at", i, n)
		}
	}
}
