package tests

import (
	"testing"

	"loop.example/g00070/impl"
)

// doesAsMeant runs each system of a tree that may run on a state, at fuels
// from none to more than it needs: what is left is what the text means.
func doesAsMeant(t *testing.T, x impl.Tree, s impl.State, met map[int]int) {
	t.Helper()
	a := newAudit(checkReg(), x)
	for _, top := range x.Tops {
		p, ok := impl.Compile(checkReg(), x, x.Nodes[top].Text)
		if !ok {
			continue
		}
		whole := meant(a, top, s, impl.MaxFuel)
		met[whole.Fault]++
		fuels := []int{0, 1, 2, 3, 4, 6, 9, whole.Steps / 3, whole.Steps / 2, whole.Steps - 2, whole.Steps - 1, whole.Steps, whole.Steps + 1, impl.MaxFuel}
		for _, fuel := range fuels {
			if fuel < 0 || fuel > impl.MaxFuel || fuel > whole.Steps+1 && fuel < impl.MaxFuel {
				continue
			}
			want := meant(a, top, s, fuel)
			d := impl.Machine(checkReg(), p, s, fuel)
			if !sameDone(d, want) {
				text, _ := impl.Print(x)
				t.Fatalf("fuel %d of %s:\n%s%s\nhave %s\nwant %s", fuel, x.Nodes[top].Text, text, progText(p), doneText(d), doneText(want))
			}
			if d.Fault == impl.FaultCode || d.Fault == impl.FaultBad {
				t.Fatalf("compiled code is at fault: %d%s", d.Fault, progText(p))
			}
		}
	}
}

// meansBy asks for what a text's system s leaves, told by hand, and holds it
// against the meaning at every fuel.
func meansBy(t *testing.T, text string, steps, fault int, then func(d *impl.Done)) {
	t.Helper()
	x := checked(t, text)
	p, ok := impl.Compile(checkReg(), x, "s")
	if !ok {
		t.Fatal("not compiled:", text)
	}
	leftBehind(t, text, p, runState(), impl.MaxFuel, faulted(fault, steps, then))
	doesAsMeant(t, x, runState(), map[int]int{})
	doesAsMeant(t, x, fullState(), map[int]int{})
	byFuel(t, checkReg(), p, runState())
}

func TestTextsOfEachExpression(t *testing.T) {
	for _, c := range []struct {
		text  string
		steps int
		fault int
		then  func(d *impl.Done)
	}{
		{"system s { }", 0, 0, nothingElse},
		{"system s { $Score = 7; }", 1, 0, resBecomes(0, whole(7))},
		{"system s { $Wind = 2.25; }", 1, 0, resBecomes(1, float(2.25))},
		{"system s { $Over = yes; }", 1, 0, resBecomes(3, yesNo(true))},
		{"system s { $Over = no; }", 1, 0, resBecomes(3, yesNo(false))},
		{"system s { $Home = pair(1.5, 2.5); }", 1, 0, resBecomes(2, pair(1.5, 2.5))},
		{"system s { $Wind = im($Home); }", 1, 0, resBecomes(1, float(2))},
		{"system s { $Wind = re($Home); }", 1, 0, resBecomes(1, float(negZero))},
		{"system s { $Wind = size(pair(3.0, 4.0)); }", 1, 0, resBecomes(1, float(25))},
		{"system s { $Wind = real(3) / 0.0; }", 1, 0, resBecomes(1, float(inf))},
		{"system s { $Score = 2 + 3 * 4 - 20 / 6 % 2; }", 1, 0, resBecomes(0, whole(13))},
		{"system s { $Score = 7 % -4; }", 1, 0, resBecomes(0, whole(3))},
		{"system s { $Score = -7 / 2; }", 1, 0, resBecomes(0, whole(-3))},
		{"system s { let a = 1; let b = a + 1; a = b * b; $Score = a; }", 4, 0, resBecomes(0, whole(4))},
		{"system s { $Over = 1 < 2 and not (2 < 1) or no; }", 1, 0, resBecomes(3, yesNo(true))},
		{"system s { $Score = $Score / ($Score - 1000); }", 1, impl.FaultZero, nothingElse},
		{"system s { $Score = 1; $Score = 1 % 0; $Score = 2; }", 2, impl.FaultZero, resBecomes(0, whole(1))},
		// both operands always
		{"system s { $Over = no and 1 / 0 == 1; }", 1, impl.FaultZero, nothingElse},
		{"system s { $Over = yes or 1 / 0 == 1; }", 1, impl.FaultZero, nothingElse},
		{"fn f() bool { $Score = $Score + 1; return yes; } system s { $Over = f() or f(); $Over = not f() and f(); }", 14, 0, func(d *impl.Done) {
			d.State.World.Res[0], d.State.World.Res[3] = whole(1004), yesNo(false)
		}},
		// operands from the left
		{"fn f(n int) int { $Score = $Score * 10 + n; return n; } system s { $Score = 0; $Over = f(1) - f(2) < f(3); }", 11, 0, func(d *impl.Done) {
			d.State.World.Res[0], d.State.World.Res[3] = whole(123), yesNo(true)
		}},
		// picks: by 0, by -1, by what is not in the list
		{"system s { each with Hp, Mp { $Score = pick(0 of Hp, Mp); } }", 5, 0, resBecomes(0, whole(30))},
		{"system s { each with Hp, Mp { $Score = pick(-1 of Hp, Mp); } }", 5, 0, resBecomes(0, whole(3))},
		{"system s { each with Hp, Mp { $Score = pick(5 of Hp, Mp, Hp); } }", 5, 0, resBecomes(0, whole(30))},
	} {
		meansBy(t, c.text, c.steps, c.fault, c.then)
	}
}

func TestTextsOfEachStatement(t *testing.T) {
	for _, c := range []struct {
		text  string
		steps int
		fault int
		then  func(d *impl.Done)
	}{
		{"system s { if $Over { $Score = 1; } $Wind = 0.5; }", 2, 0, resBecomes(1, float(0.5))},
		{"system s { if not $Over { $Score = 1; } $Wind = 0.5; }", 3, 0, func(d *impl.Done) {
			d.State.World.Res[0], d.State.World.Res[1] = whole(1), float(0.5)
		}},
		{"system s { if $Over { $Score = 1; } else { $Score = 2; } }", 2, 0, resBecomes(0, whole(2))},
		{"system s { if not $Over { $Score = 1; } else { $Score = 2; } }", 2, 0, resBecomes(0, whole(1))},
		{"system s { loop 3 { $Score = $Score + 1; } }", 7, 0, resBecomes(0, whole(1003))},
		{"system s { loop 0 { $Score = 1; } loop -5 { $Score = 2; } }", 2, 0, nothingElse},
		{"system s { loop 2 { } }", 3, 0, nothingElse},
		// the number is asked for once
		{"system s { $Score = 2; loop $Score { $Score = $Score + 5; } }", 6, 0, resBecomes(0, whole(12))},
		// a let in a round begins anew each time
		{"system s { loop 2 { let a = 1; a = a + 1; $Score = a; } }", 9, 0, resBecomes(0, whole(2))},
		{"system s { each with Hp without Mp { .Hp = .Hp + 1; } }", 5, 0, func(d *impl.Done) {
			w := d.State.World
			w.Tables[2].Cells[0][0], w.Tables[4].Cells[0][0] = whole(51), whole(41)
		}},
		{"system s { each with Hp { } each with Up { $Score = 1; } }", 6, 0, nothingElse},
		{"system s { hear Hit as h { $Score = $Score + h; } }", 5, 0, func(d *impl.Done) {
			d.State.World.Res[0], d.State.Cursors[0] = whole(1013), 8
		}},
		// what is emitted while one hears is heard by the next
		{"system s { hear Hit as h { emit Hit h * 10; } hear Hit as h { $Score = $Score + h; } }", 10, 0, func(d *impl.Done) {
			d.State.World.Res[0], d.State.Cursors[0] = whole(1130), 10
			d.State.Streams[0].New = []impl.Val{whole(7), whole(60), whole(70)}
		}},
		{"system s { hear Burn as h { $Wind = h; } hear Went as h { $Over = h; } hear Move as h { $Home = h; } }", 5, 0, func(d *impl.Done) {
			d.State.World.Res[3] = yesNo(true)
			d.State.Cursors = []int{6, 9, 4, 1}
		}},
		{"system s { emit Move $Home; emit Went not $Over; emit Burn 0.5; }", 3, 0, func(d *impl.Done) {
			d.State.Streams[2].New = []impl.Val{pair(negZero, 2)}
			d.State.Streams[3].New = []impl.Val{yesNo(true), yesNo(true)}
			d.State.Streams[1].New = []impl.Val{float(0.5)}
		}},
		{"system s { spawn(); spawn(Mp = 1, Hp = 2); each with Pos, Hp { kill; put Up = yes; drop Hp; put Hp = .Hp + 1; } }", 8, 0, func(d *impl.Done) {
			e := ent(5, 2)
			d.Cmds = []impl.Cmd{cmdSpawn(), cmdSpawn(cell(4, whole(1)), cell(0, whole(2))), cmdKill(e), cmdPut(e, 7, yesNo(true)), cmdDrop(e, 0), cmdPut(e, 0, whole(51))}
		}},
		{"system s { loop 60 { spawn(); } }", 121, 0, func(d *impl.Done) {
			for range 60 {
				d.Cmds = append(d.Cmds, cmdSpawn())
			}
		}},
		{"system s { loop 61 { spawn(); } }", 122, impl.FaultFull, nothingElse},
		{"system s { loop 198 { emit Burn 1.5; emit Hit 3; } }", 594 + 1, 0, func(d *impl.Done) {
			for range 198 {
				d.State.Streams[1].New = append(d.State.Streams[1].New, float(1.5))
				d.State.Streams[0].New = append(d.State.Streams[0].New, whole(3))
			}
		}},
		{"system s { loop 200 { emit Burn 1.5; emit Hit 3; } }", 600, impl.FaultFull, func(d *impl.Done) {
			for range 200 {
				d.State.Streams[1].New = append(d.State.Streams[1].New, float(1.5))
			}
			for range 199 {
				d.State.Streams[0].New = append(d.State.Streams[0].New, whole(3))
			}
		}},
		{"fn f(a int, b int) int { return a - b; } system s { do f(1, 2); $Score = f(f(9, 2), f(1, 3)); }", 10, 0, resBecomes(0, whole(9))},
		// functions that spawn, emit and set
		{"fn f(n int) real { spawn(Hp = n); emit Hit n; $Score = n; loop n { $Wind = $Wind + 1.0; } return $Wind; } fn g(n int) real { return f(n) + f(n + 1); } system s { $Wind = g(1); }",
			3 + 8 + 10, 0, func(d *impl.Done) {
				d.State.World.Res[0], d.State.World.Res[1] = whole(2), float(2.5+4.5)
				d.State.Streams[0].New = []impl.Val{whole(7), whole(1), whole(2)}
				d.Cmds = []impl.Cmd{cmdSpawn(cell(0, whole(1))), cmdSpawn(cell(0, whole(2)))}
			}},
		// a call within an each keeps the thing
		{"fn f(n int) int { return n + 1; } system s { each with Hp { .Hp = f(.Hp) * f(.Hp); } }", 1 + 4*(2+4), 0, func(d *impl.Done) {
			w := d.State.World
			w.Tables[0].Cells[0] = []impl.Val{whole(121), whole(961)}
			w.Tables[2].Cells[0][0], w.Tables[4].Cells[0][0] = whole(51*51), whole(41*41)
		}},
		// for ever, as far as the fuel goes
		{"system s { loop 999999999999999 { } }", impl.MaxFuel, impl.FaultFuel, nothingElse},
	} {
		meansBy(t, c.text, c.steps, c.fault, c.then)
	}
}

// Texts by chance on states by chance.
func TestAnyTextDoesAsMeant(t *testing.T) {
	w := newAuthor(12)
	d := dice(121)
	met := map[int]int{}
	for range 2000 {
		x := treeOf(w.text(6, 3)...)
		if len(x.Nodes) > 300 {
			continue
		}
		doesAsMeant(t, x, anyState(&d, checkReg()), met)
	}
	if met[impl.FaultNone] < 700 || met[impl.FaultZero] < 100 || met[impl.FaultFuel] < 5 || met[impl.FaultFull] < 30 {
		t.Error("too few were met:", met)
	}
}

// The deepest calls that a tree has room for: each function calls the one
// ahead of it.
func TestDeepestTexts(t *testing.T) {
	tops := []*plant{fnPlant("x", impl.KInt, blockPlant(grown(impl.NReturn, wholeLeaf(1))))}
	for len(tops) < 665 {
		name := longName(len(tops))
		call := opPlant(impl.OpAdd, wholeLeaf(1), named(impl.NCall, tops[len(tops)-1].text))
		tops = append(tops, fnPlant(name, impl.KInt, blockPlant(grown(impl.NReturn, call))))
	}
	tops = append(tops, systemPlant("s", named(impl.NSetRes, "Score", named(impl.NCall, tops[len(tops)-1].text))))
	x := treeOf(tops...)
	if code, _ := impl.Check(checkReg(), x); code != impl.ChkDone || len(x.Nodes) < impl.MaxNodes-20 {
		t.Fatal("not as deep as can be", code, len(x.Nodes))
	}
	p, _ := impl.Compile(checkReg(), x, "s")
	leftBehind(t, "deep calls", p, runState(), impl.MaxFuel, faulted(impl.FaultNone, 1+2*665, resBecomes(0, whole(665))))
	leftBehind(t, "deep calls", p, runState(), 2*665, faulted(impl.FaultFuel, 2*665))
	// and of the deepest expression
	sum := wholeLeaf(1)
	for range (impl.MaxNodes - 4) / 2 {
		sum = opPlant(impl.OpAdd, wholeLeaf(1), sum)
	}
	x = treeOf(systemPlant("s", named(impl.NSetRes, "Score", sum)))
	p, ok := impl.Compile(checkReg(), x, "s")
	if !ok || len(x.Nodes) != impl.MaxNodes {
		t.Fatal("not as deep as can be", len(x.Nodes))
	}
	leftBehind(t, "deep sums", p, runState(), 1, faulted(impl.FaultNone, 1, resBecomes(0, whole(1999))))
}

// As many arguments and locals as a tree has room for.
func TestWidestTexts(t *testing.T) {
	fn := fnPlant("f", impl.KInt, nil)
	fn.kids = nil
	call := named(impl.NCall, "f")
	for i := range 1990 {
		fn.kids = append(fn.kids, leaf(impl.NParam, longName(i), impl.KInt))
		call.kids = append(call.kids, wholeLeaf(i))
	}
	fn.kids = append(fn.kids, blockPlant(grown(impl.NReturn, localLeaf(longName(1989)))))
	x := treeOf(fn, systemPlant("s", named(impl.NSetRes, "Score", call)))
	p, ok := impl.Compile(checkReg(), x, "s")
	if !ok || len(x.Nodes) < impl.MaxNodes-15 {
		t.Fatal("not as wide as can be", ok, len(x.Nodes))
	}
	leftBehind(t, "wide", p, runState(), 3, faulted(impl.FaultNone, 3, resBecomes(0, whole(1989))))
}
