package tests

import (
	"testing"

	"loop.example/g00070/impl"
)

func TestMeaningOfEachExpression(t *testing.T) {
	allMean(t, []meanCase{
		{"system s { $Score = 7; }", 1, 0, scored(7)},
		{"system s { $Score = 999999999999999; }", 1, 0, scored(999999999999999)},
		{"system s { $Wind = 12.250; }", 1, 0, resBecomes(1, float(12.25))},
		{"system s { $Over = yes; }", 1, 0, resBecomes(3, yesNo(true))},
		{"system s { $Over = no; }", 1, 0, nothingElse},
		{"system s { let a = 5; let b = a; $Score = b + a; }", 3, 0, scored(10)},
		{"system s { hear Hit as h { $Score = h; } }", 5, 0, both(scored(7), cursorBecomes(0, 8))},
		{"system s { each with Hp, Mass, Pos, On { $Score = .Hp; $Wind = .Mass; $Home = .Pos; $Over = .On; } }", 6, 0,
			both(scored(50), resBecomes(1, float(0.5)), resBecomes(2, pair(5, -5)), resBecomes(3, yesNo(true)))},
		{"system s { $Score = $Score + 1; $Wind = $Wind; $Over = not $Over; $Home = $Home; }", 4, 0, both(scored(1001), resBecomes(3, yesNo(true)))},
		// from the left, and by what binds more
		{"system s { $Score = 10 - 4 - 3; }", 1, 0, scored(3)},
		{"system s { $Score = 2 - 3 * 4; }", 1, 0, scored(-10)},
		{"system s { $Score = 100 / 7 / 2; }", 1, 0, scored(7)},
		{"system s { $Score = 7 - 10 % 4; }", 1, 0, scored(5)},
		{"system s { $Over = 1 + 1 < 3 and not (2 == 3); }", 1, 0, resBecomes(3, yesNo(true))},
		{"system s { $Over = no and no or yes; }", 1, 0, resBecomes(3, yesNo(true))},
		{"system s { $Wind = 1.5 - 2.5 * 2.0; }", 1, 0, resBecomes(1, float(-3.5))},
		{"system s { $Score = -7 / 2; $Wind = real(-7) / 2.0; }", 2, 0, both(scored(-3), resBecomes(1, float(-3.5)))},
		// turns and pairs
		{"system s { $Wind = re($Home); }", 1, 0, resBecomes(1, float(negZero))},
		{"system s { $Wind = im($Home); }", 1, 0, resBecomes(1, float(2))},
		{"system s { $Wind = size(pair(3.0, 4.0)); }", 1, 0, resBecomes(1, float(25))},
		{"system s { $Wind = -$Wind; $Score = --$Score; $Home = -$Home; }", 3, 0, both(resBecomes(1, float(-1.5)), resBecomes(2, pair(0, -2)))},
		{"system s { $Home = pair(1.5, 2.5) * pair(0.0, 1.0); }", 1, 0, resBecomes(2, pair(-2.5, 1.5))},
		// picks
		{"system s { each with Hp, Mp { .Mp = pick(.Mp of Hp, Mp, Hp) * 2; } }", 5, 0, both(cellBecomes(0, 1, 0, whole(2)), cellBecomes(0, 1, 1, whole(60)))},
		{"system s { each with Mp { $Score = pick($Score of Mp); } }", 5, 0, scored(3)},
		{"system s { each with Pos, Mass, On { $Home = pick(1 of Pos); $Wind = pick(1 of Mass); $Over = pick(1 of On); } }", 5, 0,
			both(resBecomes(2, pair(5, -5)), resBecomes(1, float(0.5)), resBecomes(3, yesNo(true)))},
		// calls
		{"fn f() int { return 3; } system s { $Score = f(); }", 3, 0, scored(3)},
		{"fn f(a int, b real, c pair, d bool) real { $Score = a; $Home = c; $Over = d; return b; } system s { $Wind = f(1, 2.5, pair(3.5, 4.5), yes); }", 6, 0,
			both(scored(1), resBecomes(1, float(2.5)), resBecomes(2, pair(3.5, 4.5)), resBecomes(3, yesNo(true)))},
	})
}

func TestMeaningOfEachStatement(t *testing.T) {
	five := ent(5, 2)
	allMean(t, []meanCase{
		{"system s { }", 0, 0, nothingElse},
		{"system s { let a = 1; }", 1, 0, nothingElse},
		{"system s { let a = 1; a = a + 4; a = a * a; $Score = a; }", 4, 0, scored(25)},
		{"system s { hear Hit as h { h = h * 2; $Score = $Score + h; } }", 7, 0, both(scored(1026), cursorBecomes(0, 8))},
		{"system s { $Score = 1; $Score = 2; }", 2, 0, scored(2)},
		{"system s { each with Mass, Hp { .Mass = .Mass * 3.0; .Hp = .Hp - 1; } }", 4, 0, both(cellBecomes(2, 1, 0, float(1.5)), cellBecomes(2, 0, 0, whole(49)))},
		{"system s { each with Pos, On { .Pos = -.Pos; .On = not .On; } }", 4, 0, both(cellBecomes(2, 2, 0, pair(-5, 5)), cellBecomes(2, 3, 0, yesNo(false)))},
		// if
		{"system s { if yes { $Score = 1; } }", 2, 0, scored(1)},
		{"system s { if no { $Score = 1; } }", 1, 0, nothingElse},
		{"system s { if yes { $Score = 1; } else { $Score = 2; } }", 2, 0, scored(1)},
		{"system s { if no { $Score = 1; } else { $Score = 2; } }", 2, 0, scored(2)},
		{"system s { if yes { } else { $Score = 2; } if no { $Score = 3; } else { } }", 2, 0, nothingElse},
		{"system s { if $Over { } else { if $Score < 7 { $Score = 1; } else { $Score = 2; $Score = $Score + 1; } } }", 4, 0, scored(3)},
		// loop
		{"system s { loop 3 { $Score = $Score + 1; } }", 7, 0, scored(1003)},
		{"system s { loop 3 { } }", 4, 0, nothingElse},
		{"system s { let n = 3; loop n { n = n + 5; $Score = n; } }", 2 + 3*3, 0, scored(18)},
		// each
		{"system s { each with Hp without Mp { .Hp = .Hp + 1; } }", 5, 0, both(cellBecomes(2, 0, 0, whole(51)), cellBecomes(4, 0, 0, whole(41)))},
		{"system s { each with Hp without Mp, Mass { .Hp = .Hp + 1; } }", 3, 0, cellBecomes(4, 0, 0, whole(41))},
		{"system s { each with Hp { } }", 5, 0, nothingElse},
		// emit and hear
		{"system s { emit Hit 9; emit Burn 2.5; emit Move $Home; emit Went yes; emit Hit 8; }", 5, 0,
			both(sends(0, whole(9), whole(8)), sends(1, float(2.5)), sends(2, pair(negZero, 2)), sends(3, yesNo(true)))},
		{"system s { hear Hit as h { } }", 3, 0, cursorBecomes(0, 8)},
		{"system s { hear Went as h { $Over = h; } hear Move as h { $Home = h; } hear Burn as h { $Wind = h; } }", 5, 0,
			both(resBecomes(3, yesNo(true)), cursorBecomes(3, 1), cursorBecomes(2, 4), cursorBecomes(1, 9))},
		// do
		{"fn f(n int) int { $Score = n; return n; } system s { do f(4); do f(5); }", 8, 0, scored(5)},
		// commands
		{"system s { spawn(); }", 1, 0, writesDown(cmdSpawn())},
		{"system s { spawn(Pos = pair(1.0, 2.0), Hp = 1 + 2, Up = yes, Heat = 0.5); }", 1, 0,
			writesDown(cmdSpawn(cell(2, pair(1, 2)), cell(0, whole(3)), cell(7, yesNo(true)), cell(5, float(0.5))))},
		{"system s { each with Pos { kill; } }", 3, 0, writesDown(cmdKill(five))},
		{"system s { each with Pos { put Hp = 4; put Up = no; } }", 4, 0, writesDown(cmdPut(five, 0, whole(4)), cmdPut(five, 7, yesNo(false)))},
		{"system s { each with Pos { drop Pos; drop Heat; } }", 4, 0, writesDown(cmdDrop(five, 2), cmdDrop(five, 5))},
	})
}

// Commands of each kind stand as they were written down, of functions and of
// rounds, too; and nobody does them: what is asked behind them is as it was.
func TestMeaningOfCommandsInOrder(t *testing.T) {
	zero, three, five, four := ent(0, 4), ent(3, 1), ent(5, 2), ent(4, 0)
	allMean(t, []meanCase{
		{"fn f(n int) int { spawn(Mp = n); return n; } system s { spawn(Hp = f(1)); each with Mp { kill; put Mp = f(2) + 5; drop Mp; kill; } do f(3); }",
			4 + 1 + 2*(4+3+1) + 4, 0, writesDown(
				cmdSpawn(cell(4, whole(1))), cmdSpawn(cell(0, whole(1))),
				cmdKill(zero), cmdSpawn(cell(4, whole(2))), cmdPut(zero, 4, whole(7)), cmdDrop(zero, 4), cmdKill(zero),
				cmdKill(three), cmdSpawn(cell(4, whole(2))), cmdPut(three, 4, whole(7)), cmdDrop(three, 4), cmdKill(three),
				cmdSpawn(cell(4, whole(3))))},
		{"system s { each with Hp { put Hp = 1; kill; drop Hp; } each with Hp { $Score = $Score + .Hp; } each with Hp without Mp { put Mp = .Hp; } }",
			1 + 4*4 + 1 + 4*2 + 1 + 2*2, 0, both(scored(1130), writesDown(
				cmdPut(zero, 0, whole(1)), cmdKill(zero), cmdDrop(zero, 0), cmdPut(three, 0, whole(1)), cmdKill(three), cmdDrop(three, 0),
				cmdPut(five, 0, whole(1)), cmdKill(five), cmdDrop(five, 0), cmdPut(four, 0, whole(1)), cmdKill(four), cmdDrop(four, 0),
				cmdPut(five, 4, whole(50)), cmdPut(four, 4, whole(40))))},
		// a thing that would be made is not there yet
		{"system s { spawn(Up = yes); each with Up { $Score = 1; } }", 2, 0, writesDown(cmdSpawn(cell(7, yesNo(true))))},
	})
}

func TestMeaningOfFunctions(t *testing.T) {
	allMean(t, []meanCase{
		// functions that call functions
		{"fn f(n int) int { return n + 1; } fn g(n int) int { return f(n) * 2; } fn h(n int) int { return g(f(n)); } system s { $Score = h(1); }",
			1 + 2 + 2 + 2 + 2, 0, scored(6)},
		// twice in one expression
		{"fn f(n int) int { let a = n * 10; return a; } system s { $Score = f(1) + f(2); }", 1 + 3 + 3, 0, scored(30)},
		{"fn f(a int, b int) int { return a - b; } system s { $Score = f(f(9, 2), f(1, 3)); }", 1 + 3*2, 0, scored(9)},
		{"fn f(a int, b int, c int) int { return a * 100 + b * 10 + c; } system s { $Score = f(1, f(4, 5, 6) % 10, 3); }", 1 + 2*2, 0, scored(163)},
		{"fn f(n int) int { return n * 2; } system s { $Score = f(f(f(f(1)))); }", 1 + 4*2, 0, scored(16)},
		// one that is called by two, of which one calls the other
		{"fn f(n int) int { let a = n; a = a + 1; return a; } fn g(n int) int { let a = f(n); let b = f(a); return f(a) * f(b); } system s { $Score = g(1) + f(7); }",
			1 + 1 + 3 + 4*4 + 4, 0, scored(3*4 + 8)},
		// locals of one name, each function's own
		{"fn f(a int) int { let b = a; a = 50; b = b + a; return b; } system s { let a = 1; let b = 2; $Score = f(b) + a * 1000 + b; }", 3 + 1 + 4, 0, scored(1054)},
		// a parameter that is stored to: what was handed in stays
		{"fn f(a int) int { a = a + 1; return a; } system s { let a = 5; $Score = f(a) * 10 + a; }", 2 + 3, 0, scored(65)},
		// what a function does to resources is seen by what is told behind it
		{"fn f(n int) int { $Score = $Score * 10 + n; return $Score; } system s { $Score = 0; $Over = f(1) - f(2) + f(3) == 1 - 12 + 123; }", 2 + 3*3, 0, both(scored(123), resBecomes(3, yesNo(true)))},
		{"fn f() int { $Score = 5; return 1; } system s { $Score = $Score + f(); }", 1 + 3, 0, scored(1001)},
		{"fn f() int { $Score = 5; return 1; } system s { $Score = f() + $Score; }", 1 + 3, 0, scored(6)},
		// with every statement that a function may have
		{"fn f(n int) real { let a = n; a = a + 1; spawn(Hp = n); emit Hit a; $Score = a; if a < 3 { $Wind = 0.0; } else { $Over = yes; } loop n { $Wind = $Wind + 1.0; } return $Wind; } fn g(n int) real { do f(n); return f(n + 1); } system s { $Wind = g(1) * 2.0; }",
			1 + 1 + 2 + (1 + 8 + 1 + 2) + (1 + 8 + 1 + 4), 0, both(scored(3), resBecomes(1, float(6)), resBecomes(3, yesNo(true)),
				sends(0, whole(2), whole(3)), writesDown(cmdSpawn(cell(0, whole(1))), cmdSpawn(cell(0, whole(2)))))},
		// a call in an each, in a hear: the thing and the event stay
		{"fn f(n int) int { return n + 1; } system s { each with Hp { .Hp = f(.Hp) * f(.Hp); } }", 1 + 4*(2+4), 0,
			both(cellBecomes(0, 0, 0, whole(121)), cellBecomes(0, 0, 1, whole(961)), cellBecomes(2, 0, 0, whole(51*51)), cellBecomes(4, 0, 0, whole(41*41)))},
		{"fn f(n int) int { let h = n; h = 0; return n + 1; } system s { hear Hit as h { $Score = f(h) + h; } }", 1 + 2*(2+4), 0, both(scored(15), cursorBecomes(0, 8))},
		// functions that nobody calls, ahead and behind
		{"fn f() int { $Score = 1; return 1 / 0; } system s { $Over = yes; } fn g() int { spawn(); return f(); } system t { $Score = 2; }", 1, 0, resBecomes(3, yesNo(true))},
		// names of functions and locals that are those of columns, resources, streams
		{"fn Hp(Score int) int { let Hit = Score; return Hit; } system s { let Hp = 4; let Score = Hp(Hp); $Score = Score; emit Hit Score; }", 4 + 3, 0, both(scored(4), sends(0, whole(4)))},
	})
}

// Locals of blocks that stand side by side may have one name.
func TestMeaningOfLocals(t *testing.T) {
	allMean(t, []meanCase{
		{"system s { if yes { let a = 1; $Score = a; } else { let a = yes; $Over = a; } let a = 2.5; $Wind = a; }", 5, 0, both(scored(1), resBecomes(1, float(2.5)))},
		{"system s { let a = 1; loop 2 { let b = a; a = a + 1; if yes { let c = b; $Score = $Score + c; } if yes { let c = 10; $Score = $Score + c; } } }", 2 + 2*(4+4+1), 0, scored(1023)},
		// a let in a round begins anew, a local around it goes on
		{"system s { let b = 0; loop 3 { let a = 1; a = a + 1; b = b + a; } $Score = b; }", 3 + 3*4, 0, scored(6)},
		{"system s { let last = 0; hear Hit as h { $Score = $Score * 100 + last; last = h; } hear Hit as h { last = 1; } hear Went as h { let more = h; $Over = more; } $Score = $Score + last; }",
			1 + 1 + 2*3 + 1 + 1 + 3 + 1, 0, both(scored(1000*10000+6+7), resBecomes(3, yesNo(true)), cursorBecomes(0, 8), cursorBecomes(3, 1))},
		{"system s { let n = 0; each with Hp { n = n + 1; .Hp = n; } }", 2 + 4*3, 0,
			both(cellBecomes(0, 0, 0, whole(1)), cellBecomes(0, 0, 1, whole(2)), cellBecomes(2, 0, 0, whole(3)), cellBecomes(4, 0, 0, whole(4)))},
	})
}

// oneThing has one thing with all columns, each of the value zero but these.
func oneThing(cells ...impl.Cell) impl.State {
	s := impl.State{World: impl.NewWorld(checkReg()), Streams: make([]impl.Stream, 4), Cursors: make([]int, 4)}
	t := table(upTo(8), []impl.Ent{ent(0, 0)})
	for _, d := range checkReg().Comps {
		t.Cells = append(t.Cells, []impl.Val{impl.ValZero(d.Kind)})
	}
	for _, c := range cells {
		t.Cells[c.Comp][0] = c.Val
	}
	s.World.Ents.Gens, s.World.Tables = []int{0}, []impl.Table{t}
	return s
}

// reckons asks for what an expression over the thing's columns comes to, of
// each kind in a resource of its kind.
func reckons(t *testing.T, e *plant, s impl.State, want impl.Val, zero bool) {
	t.Helper()
	at := 0
	if !zero {
		at = want.Kind - 1
	}
	var with []string
	for _, d := range checkReg().Comps {
		with = append(with, d.Name)
	}
	x := treeOf(systemPlant("s", eachPlant(with, nil, named(impl.NSetRes, checkReg().Ress[at].Name, e))))
	done := impl.Done{State: cloneState(s), Steps: 3}
	if zero {
		done.Fault, done.Steps = impl.FaultZero, 2
	} else {
		done.State.World.Res[at] = want
	}
	c := newReading(t, checkReg(), x, "s", s)
	if d := c.at(t, 3); !sameDone(d, done) {
		t.Fatalf("%shave %s\nwant %s", c.text(), doneText(d), doneText(done))
	}
}

// Every op, every turn and pairs, of values of every kind.
func TestMeaningOfValues(t *testing.T) {
	column := func(at int) *plant { return leaf(impl.NComp, checkReg().Comps[at].Name, 0) }
	for i, kind := range valKinds {
		vals := valsOf(kind)
		for n, a := range vals {
			for k, b := range vals {
				if kind == impl.KPair && (n+k)%5 > 0 {
					continue
				}
				s := oneThing(cell(i, a), cell(i+4, b))
				for op := impl.OpAdd; op <= impl.OpOr; op++ {
					if opResult(op, kind, kind) > 0 {
						v, code := impl.ValOp(op, a, b)
						reckons(t, opPlant(op, column(i), column(i+4)), s, v, code == impl.OpZero)
					}
				}
				if kind == impl.KReal {
					v, _ := impl.ValPair(a, b)
					reckons(t, grown(impl.NPair, column(i), column(i+4)), s, v, false)
				}
			}
			for op := impl.TurnNeg; op <= impl.TurnSize; op++ {
				if turnResult(op, kind) > 0 {
					v, _ := impl.ValTurn(op, a)
					reckons(t, turnPlant(op, column(i)), oneThing(cell(i, a)), v, false)
				}
			}
		}
	}
}

// everyText has every statement and every expression, in rounds and functions,
// and leaves something of each sort.
const everyText = `
fn half(n int) int { return n / 2; }
fn both(n int, b bool) bool { $Score = $Score + n; if b { emit Went b; } else { spawn(On = b, Hp = half(n)); } return not b and n < 5 or $Over; }
fn turned(p pair) pair { let q = p * pair(0.0, 1.0); loop 2 { q = q + $Home; } return -q; }
system s {
	let n = 0;
	each with Hp, Mp without Up {
		.Hp = half(.Hp) + pick(n - 1 of Hp, Mp, Hp) % 7;
		if both(n, yes) == both(.Mp, no) { put Mp = .Hp - n; } else { put Heat = size(turned($Home)); drop Hp; }
		n = n + 1;
	}
	each with Pos { .Pos = turned(.Pos); emit Move .Pos; kill; }
	hear Move as m { $Wind = re(m) - im($Home) * real(n); }
	hear Hit as h { let twice = h * 2; $Score = $Score - twice; loop h - 5 { emit Hit twice; } }
	do both(3, $Wind < 1.5);
	spawn(Pos = turned(pair(1.5, $Wind)), Up = no);
	hear Went as w { $Over = w; }
}
system t { loop 50 { emit Burn $Wind; } }`

func TestMeaningOfWholeTexts(t *testing.T) {
	states := []impl.State{runState(), fullState(), oneThing(cell(0, whole(-9)), cell(4, whole(4)))}
	d := dice(130)
	for range 12 {
		states = append(states, anyState(&d, checkReg()))
	}
	x := checked(t, everyText)
	met := map[int]bool{}
	for _, n := range x.Nodes {
		met[n.Kind] = true
	}
	if len(met) != impl.NSystem {
		t.Error("the text has not every kind of node:", met)
	}
	for _, s := range states {
		c := newReading(t, checkReg(), x, "s", s)
		c.atEachFuel(t)
		c.byTheTests(t, someFuels(c.at(t, impl.MaxFuel).Steps))
		newReading(t, checkReg(), x, "t", s).atFuels(t, someFuels(101))
		y := checked(t, wholeText)
		newReading(t, checkReg(), y, "go", s).atEachFuel(t)
		newReading(t, checkReg(), y, "rest", s).atEachFuel(t)
	}
}

// A text with most statements, and what it leaves, told by hand.
func TestMeaningOfALongText(t *testing.T) {
	zero, three, five := ent(0, 4), ent(3, 1), ent(5, 2)
	allMean(t, []meanCase{{`
fn half(n int) int { return n / 2; }
fn tell(n int, b bool) bool { $Score = $Score + n; if b { emit Went b; } else { spawn(On = b, Hp = half(n)); } return not b; }
system s {
	let n = 0;
	each with Hp, Mp without Up {
		.Hp = half(.Hp) + pick(n - 1 of Hp, Mp);
		if tell(n, n == 0) { put Mp = .Hp; } else { put Heat = 0.5; drop Hp; }
		n = n + 1;
	}
	each with Pos { .Pos = -.Pos; emit Move .Pos; kill; }
	hear Move as m { $Home = m; }
	hear Hit as h { let twice = h * 2; loop h - 5 { emit Hit twice; } }
	hear Went as w { $Over = not w; }
}`,
		// let; each; the first thing: store 1, half 2, if 1, tell 1 + 4 (with the emit), put and drop 2, store 1, behind 1
		1 + 1 + (1 + 2 + 1 + 5 + 2 + 1 + 1) +
			// the second thing: the same, but half once more in tell, and one put alone
			(1 + 2 + 1 + 5 + 2 + 1 + 1 + 1) +
			// each with Pos; hear Move, whose cursor is ahead; hear Hit of 6 and 7; hear Went of two
			1 + 4 + 1 + 1 + (2 + 2 + 1) + (2 + 4 + 1) + 1 + 4, 0, both(
			scored(1001), resBecomes(3, yesNo(false)),
			cellBecomes(0, 0, 0, whole(5+1)), cellBecomes(0, 0, 1, whole(15+30)), cellBecomes(2, 2, 0, pair(-5, 5)),
			sends(0, whole(12), whole(14), whole(14)), sends(2, pair(-5, 5)), sends(3, yesNo(true)),
			cursorBecomes(0, 8), cursorBecomes(2, 5), cursorBecomes(3, 2),
			writesDown(cmdPut(zero, 5, float(0.5)), cmdDrop(zero, 0), cmdSpawn(cell(3, yesNo(false)), cell(0, whole(0))), cmdPut(three, 4, whole(45)), cmdKill(five)))}})
}
