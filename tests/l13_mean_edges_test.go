package tests

import (
	"slices"
	"strings"
	"testing"

	"loop.example/g00070/impl"
)

// Each fuel from 0 on, and the state as it stands by then.
func TestMeaningStepByStep(t *testing.T) {
	none := nothingElse
	heard := cursorBecomes(0, 8)
	mp := func(row int) func(d *impl.Done) { return cellBecomes(0, 1, row, whole(9)) }
	for _, c := range []struct {
		text   string
		fault  int
		byThen []func(d *impl.Done)
	}{
		{"system s { }", 0, []func(d *impl.Done){none}},
		{"system s { $Score = 1; $Score = 2; }", 0, []func(d *impl.Done){none, scored(1), scored(2)}},
		{"system s { if yes { $Score = 1; } $Score = 2; }", 0, []func(d *impl.Done){none, none, scored(1), scored(2)}},
		// the step behind a block, the last time, too
		{"system s { loop 2 { $Score = $Score + 1; } }", 0, []func(d *impl.Done){none, none, scored(1001), scored(1001), scored(1002), scored(1002)}},
		{"system s { loop 2 { } $Score = 1; }", 0, []func(d *impl.Done){none, none, none, none, scored(1)}},
		{"system s { loop 0 { } $Score = 1; }", 0, []func(d *impl.Done){none, none, scored(1)}},
		{"system s { each with Mp { .Mp = 9; } $Score = 1; }", 0, []func(d *impl.Done){none, none, mp(0), mp(0), both(mp(0), mp(1)), both(mp(0), mp(1)), both(mp(0), mp(1), scored(1))}},
		{"system s { each with Up { } $Score = 1; }", 0, []func(d *impl.Done){none, none, scored(1)}},
		// the cursor becomes another one at once
		{"system s { hear Hit as h { $Score = h; } $Over = yes; }", 0, []func(d *impl.Done){none, heard, both(heard, scored(6)), both(heard, scored(6)), both(heard, scored(7)), both(heard, scored(7)), both(heard, scored(7), resBecomes(3, yesNo(true)))}},
		{"system s { hear Burn as h { } $Over = yes; }", 0, []func(d *impl.Done){none, cursorBecomes(1, 9), both(cursorBecomes(1, 9), resBecomes(3, yesNo(true)))}},
		// a call's step comes behind its kids, ahead of its block
		{"fn g() int { $Score = 1; return 5; } fn f(n int) int { $Score = n; return n; } system s { do f(g()); }", 0,
			[]func(d *impl.Done){none, none, none, scored(1), scored(1), scored(1), scored(5), scored(5)}},
		{"fn f(n int) int { $Score = n; return n; } system s { $Score = f(1) + f(2); }", 0, []func(d *impl.Done){none, none, none, scored(1), scored(1), scored(1), scored(2), scored(3)}},
		// events stay, commands are told at the end alone
		{"system s { emit Hit 1; spawn(); emit Hit 2; }", 0, []func(d *impl.Done){none, sends(0, whole(1)), sends(0, whole(1)), both(sends(0, whole(1), whole(2)), writesDown(cmdSpawn()))}},
		// a fault that is no lack of fuel comes ahead of the step behind it
		{"system s { $Score = 1; $Score = 1 / 0; $Score = 2; }", impl.FaultZero, []func(d *impl.Done){none, scored(1), scored(1)}},
		{"fn f(n int) int { $Over = yes; return n; } system s { do f(1 / 0); }", impl.FaultZero, []func(d *impl.Done){none, none}},
		{"fn f(n int) int { $Score = n; return n / 0; } system s { loop 3 { do f(7); } }", impl.FaultZero, []func(d *impl.Done){none, none, none, none, scored(7), scored(7)}},
		{"system s { loop 2 { $Score = $Score / ($Score - 1000); } }", impl.FaultZero, []func(d *impl.Done){none, none, none}},
	} {
		byHand(t, c.text, runState(), c.fault, c.byThen...)
	}
}

func TestMeaningWithTheMostFuel(t *testing.T) {
	most := impl.MaxFuel
	for _, c := range []meanCase{
		{"system s { loop 999 { $Score = $Score + 1; } $Over = yes; }", most, 0, both(scored(1999), resBecomes(3, yesNo(true)))},
		{"system s { loop 999 { $Score = $Score + 1; } $Over = yes; $Over = no; }", most, impl.FaultFuel, both(scored(1999), resBecomes(3, yesNo(true)))},
		{"system s { loop 1999 { } }", most, 0, nothingElse},
		{"system s { loop 2000 { } $Score = 1; }", most, impl.FaultFuel, nothingElse},
		{"system s { loop 1000 { $Score = $Score + 1; } }", most, impl.FaultFuel, scored(2000)},
		{"system s { loop 999999999999999 { } }", most, impl.FaultFuel, nothingElse},
		{"fn f(n int) int { return n + 1; } system s { loop 499 { $Score = f($Score); } loop 2 { } }", most, 0, scored(1499)},
	} {
		x := checked(t, c.text)
		r := newReading(t, checkReg(), x, "s", runState())
		want := impl.Done{State: runState(), Fault: c.fault, Steps: c.steps}
		c.then(&want)
		if d := r.atFuels(t, append(someFuels(most), most/4, most-5)); !sameDone(d, want) {
			t.Errorf("%s:\nhave %s\nwant %s", c.text, doneText(d), doneText(want))
		}
		r.byTheTests(t, []int{most - 1})
	}
	// at every fuel that there is
	newReading(t, checkReg(), checked(t, "system s { loop 999 { $Score = $Score + 1; } $Over = yes; }"), "s", runState()).atEachFuel(t)
	newReading(t, checkReg(), checked(t, "fn f(n int) int { loop n { $Score = $Score * 3; } return n; } system s { loop 30 { loop 5 { do f(2); } } emit Hit $Score; }"), "s", runState()).atEachFuel(t)
	// as many commands as there may be, and as many statements as a tree has room for
	many := checked(t, "system s { "+strings.Repeat("spawn();", 60)+" }")
	newReading(t, checkReg(), many, "s", runState()).atEachFuel(t)
	var list []*plant
	for i := range (impl.MaxNodes - 2) / 2 {
		list = append(list, named(impl.NSetRes, "Score", wholeLeaf(i)))
	}
	c := newReading(t, checkReg(), treeOf(systemPlant("s", list...)), "s", runState())
	if d := c.at(t, most); d.Fault != impl.FaultNone || d.Steps != 1999 || d.State.World.Res[0] != whole(1998) {
		t.Error("a block of the most statements", d.Fault, d.Steps)
	}
}

func TestMeaningOfLoopNumbers(t *testing.T) {
	const text = "system s { loop $Score { $Wind = $Wind + 1.0; } $Over = yes; }"
	for _, n := range append(someInts, 4, 5, 20, 998, 999, 1000, 1001) {
		s := runState()
		s.World.Res[0], s.World.Res[1] = whole(n), float(0)
		// 999 times are 1998 steps, and there are two statements more
		steps, times, fault := impl.MaxFuel, 1000, impl.FaultFuel
		if n <= 999 {
			times, fault = max(n, 0), impl.FaultNone
			steps = 2 + 2*times
		}
		want := impl.Done{State: cloneState(s), Fault: fault, Steps: steps}
		want.State.World.Res[1] = float(float64(times))
		if fault == impl.FaultNone {
			want.State.World.Res[3] = yesNo(true)
		}
		c := newReading(t, checkReg(), checked(t, text), "s", s)
		if d := c.atFuels(t, someFuels(steps)); !sameDone(d, want) {
			t.Errorf("loop %d:\nhave %s\nwant %s", n, doneText(d), doneText(want))
		}
	}
}

func TestMeaningOfRoundsInRounds(t *testing.T) {
	allMean(t, []meanCase{
		{"system s { loop 3 { loop 4 { $Score = $Score + 1; } } }", 1 + 3*(1+4*2+1), 0, scored(1012)},
		{"system s { loop 2 { loop 0 { } loop 1 { loop 2 { } } } }", 1 + 2*(1+1+(1+2+1)+1), 0, nothingElse},
		{"system s { let n = 0; loop 3 { n = n + 1; loop n { $Score = $Score + n; } } }", 2 + 3*3 + 2*(1+2+3), 0, scored(1000 + 1 + 4 + 9)},
		// a loop in a function that is called from a loop
		{"fn f(n int) int { loop n { $Score = $Score + 1; } return n; } system s { loop 3 { do f(2); } }", 1 + 3*(1+1+(1+4)+1+1), 0, scored(1006)},
		{"fn f(n int) int { loop n { $Score = $Score + 1; } return n - 1; } system s { loop f(3) { loop f(1) { $Over = yes; } $Wind = $Wind + 1.0; } }",
			1 + (1 + 7 + 1) + 2*(1+(1+3+1)+1+1), 0, both(scored(1005), resBecomes(1, float(3.5)))},
		// each and hear in a loop: begun anew each time
		{"system s { loop 2 { each with Mp { .Mp = .Mp * 2; } } }", 1 + 2*(1+2*2+1), 0, both(cellBecomes(0, 1, 0, whole(4)), cellBecomes(0, 1, 1, whole(12)))},
		{"system s { loop 2 { hear Hit as h { $Score = $Score + h; emit Hit h * 10; } } }", 1 + (1 + 2*3 + 1) + (1 + 2*3 + 1), 0,
			both(scored(1013+130), sends(0, whole(60), whole(70), whole(600), whole(700)), cursorBecomes(0, 10))},
		// loops in each and hear
		{"system s { each with Mp, Hp { loop .Mp { .Hp = .Hp + 1; .Mp = 7; } } }", 1 + (1 + 3 + 1) + (1 + 9 + 1), 0,
			both(cellBecomes(0, 0, 0, whole(11)), cellBecomes(0, 0, 1, whole(33)), cellBecomes(0, 1, 0, whole(7)), cellBecomes(0, 1, 1, whole(7)))},
		{"system s { hear Hit as h { loop h - 5 { h = 100; $Score = $Score + 1; } } }", 1 + (1 + 3 + 1) + (1 + 6 + 1), 0, both(scored(1003), cursorBecomes(0, 8))},
	})
}

func TestMeaningOfThings(t *testing.T) {
	allMean(t, []meanCase{
		// none, one, many
		{"system s { each with Up { $Score = 1; kill; } }", 1, 0, nothingElse},
		{"system s { each with Mass without Hp { $Score = 1; kill; } }", 1, 0, nothingElse},
		{"system s { each with Mass { $Score = 1; } }", 3, 0, scored(1)},
		{"system s { each with Hp { $Score = $Score * 10 + .Hp; } }", 9, 0, scored(10000000 + 10000 + 3000 + 500 + 40)},
		// what the block changes is seen by what is told behind it, and by the next one
		{"system s { each with Hp { .Hp = .Hp + $Score; $Score = .Hp; } }", 1 + 4*3, 0,
			both(cellBecomes(0, 0, 0, whole(1010)), cellBecomes(0, 0, 1, whole(1040)), cellBecomes(2, 0, 0, whole(1090)), cellBecomes(4, 0, 0, whole(1130)), scored(1130))},
		{"system s { each with Mp { .Mp = .Mp + 1; .Mp = .Mp * .Mp; } each with Mp { $Score = $Score + .Mp; } }", 1 + 6 + 1 + 4, 0,
			both(cellBecomes(0, 1, 0, whole(4)), cellBecomes(0, 1, 1, whole(16)), scored(1020))},
		// the things are those that stand there when it is begun, as no command is done
		{"system s { each with Hp { kill; spawn(Hp = 1); drop Hp; } }", 1 + 4*4, 0, writesDown(
			cmdKill(ent(0, 4)), cmdSpawn(cell(0, whole(1))), cmdDrop(ent(0, 4), 0), cmdKill(ent(3, 1)), cmdSpawn(cell(0, whole(1))), cmdDrop(ent(3, 1), 0),
			cmdKill(ent(5, 2)), cmdSpawn(cell(0, whole(1))), cmdDrop(ent(5, 2), 0), cmdKill(ent(4, 0)), cmdSpawn(cell(0, whole(1))), cmdDrop(ent(4, 0), 0))},
		// a fault in the block: what was done so far stays
		{"system s { each with Hp { .Hp = 100 / (.Hp - 50); } }", 1 + 2*2 + 1, impl.FaultZero, both(cellBecomes(0, 0, 0, whole(-2)), cellBecomes(0, 0, 1, whole(-5)))},
	})
}

// As many things as fuel has steps for, and one more.
func TestMeaningOfCrowds(t *testing.T) {
	x := parsedTree(t, "system s { each with Hp { } }")
	y := parsedTree(t, "system s { each with Hp { .Hp = .Hp + 1; } }")
	for _, n := range []int{0, 1, 2, impl.MaxEnts - 2, impl.MaxEnts - 1, impl.MaxEnts} {
		s := impl.State{World: crowd(n), Streams: make([]impl.Stream, 1), Cursors: []int{0}}
		fault, steps := impl.FaultNone, 1+n
		if n == impl.MaxEnts {
			fault, steps = impl.FaultFuel, impl.MaxFuel
		}
		c := newReading(t, worldReg(), x, "s", s)
		if d := c.at(t, impl.MaxFuel); !sameDone(d, impl.Done{State: s, Fault: fault, Steps: steps}) {
			t.Error("a crowd of", n, d.Fault, d.Steps)
		}
		// two steps for each thing: half of them is come to
		c = newReading(t, worldReg(), y, "s", s)
		d := c.at(t, impl.MaxFuel)
		come := min(n, impl.MaxFuel/2)
		for i, v := range d.State.World.Tables[0].Cells[0] {
			if i < come && v != whole(i+1) || i >= come && v != whole(i) {
				t.Fatal("a crowd of", n, "thing", i, v)
			}
		}
	}
	// most tables, all of them gone through
	r := wideReg()
	name := r.Comps[3].Name
	z := parsedTree(t, "system s { each with "+name+" { ."+name+" = 1; } }")
	s := impl.State{World: manyTables(impl.MaxTables)}
	want := impl.Done{State: cloneState(s), Steps: 1}
	for i, one := range want.State.World.Tables {
		if at := slices.Index(one.Cols, 3); at >= 0 {
			want.State.World.Tables[i].Cells[at][0] = whole(1)
			want.Steps += 2
		}
	}
	if d := newReading(t, r, z, "s", s).atEachFuel(t); !sameDone(d, want) || want.Steps < 20 {
		t.Error("most tables", doneText(d))
	}
}

func TestMeaningOfHearing(t *testing.T) {
	x := checked(t, "system s { hear Hit as h { $Score = $Score * 3 + h; } }")
	faulty := checked(t, "system s { $Score = 1; hear Hit as h { $Over = 1 / 0 == h; } }")
	for _, q := range []impl.Stream{countedFrom(5, 2, 1), countedFrom(0, 0, 4), countedFrom(3, 4, 0), countedFrom(0, 1, 0), countedFrom(impl.MaxFirst, 3, 3), countedFrom(7, 0, 0), countedFrom(11, impl.MaxEvents, impl.MaxEvents)} {
		for _, cursor := range someCursors(q) {
			s := runState()
			s.Streams[0], s.Cursors[0] = q, cursor
			list, behind, _ := plainUnread(q, cursor)
			want := impl.Done{State: cloneState(s), Steps: 1 + 2*len(list)}
			want.State.Cursors[0] = behind
			for _, v := range list {
				want.State.World.Res[0].I = want.State.World.Res[0].I*3 + v.I
			}
			c := newReading(t, checkReg(), x, "s", s)
			if d := c.atFuels(t, someFuels(want.Steps)); !sameDone(d, want) {
				t.Errorf("cursor %d:\nhave %s\nwant %s", cursor, doneText(d), doneText(want))
			}
			// the cursor stays so where the block stops with a fault
			want = impl.Done{State: cloneState(s), Steps: 2}
			want.State.World.Res[0], want.State.Cursors[0] = whole(1), behind
			if len(list) > 0 {
				want.Fault, want.Steps = impl.FaultZero, 3
			}
			if d := newReading(t, checkReg(), faulty, "s", s).atEachFuel(t); !sameDone(d, want) {
				t.Errorf("a fault with the cursor %d:\nhave %s\nwant %s", cursor, doneText(d), doneText(want))
			}
		}
	}
}

func TestMeaningOfEventsOfOneRun(t *testing.T) {
	allMean(t, []meanCase{
		// sent and heard in one run
		{"system s { emit Burn 2.5; emit Burn 3.5; hear Burn as h { $Wind = $Wind * 10.0 + h; } }", 2 + 1 + 4, 0, both(resBecomes(1, float(178.5)), sends(1, float(2.5), float(3.5)), cursorBecomes(1, 11))},
		// heard once
		{"system s { emit Burn 2.5; hear Burn as h { $Score = $Score + 1; } hear Burn as h { $Score = $Score + 1; } emit Burn 3.5; hear Burn as h { $Wind = h; } }", 1 + 3 + 1 + 1 + 3, 0,
			both(scored(1001), resBecomes(1, float(3.5)), sends(1, float(2.5), float(3.5)), cursorBecomes(1, 11))},
		// what is sent while one hears comes behind
		{"system s { hear Hit as h { emit Hit h * 10; } hear Hit as h { $Score = $Score + h; } }", 1 + 4 + 1 + 4, 0, both(scored(1130), sends(0, whole(60), whole(70)), cursorBecomes(0, 10))},
		// not heard: the cursor stays
		{"system s { emit Hit 1; emit Went no; }", 2, 0, both(sends(0, whole(1)), sends(3, yesNo(false)))},
		// sent by a function
		{"fn f(x real) real { emit Burn x; return x + 1.0; } system s { do f(f(0.5)); hear Burn as h { $Wind = $Wind + h; } }", 1 + 6 + 1 + 4, 0, both(resBecomes(1, float(3.5)), sends(1, float(0.5), float(1.5)), cursorBecomes(1, 11))},
	})
	// a cursor that is ahead becomes the number behind the last one
	allMean(t, []meanCase{{"system s { emit Move $Home; hear Move as m { $Home = -m; } hear Move as m { $Home = m; } }", 1 + 1 + 1, 0, both(sends(2, pair(negZero, 2)), cursorBecomes(2, 5))}})
}

func TestMeaningOfFullStreams(t *testing.T) {
	for at, kind := range valKinds {
		for _, have := range []int{0, impl.MaxEvents - 2, impl.MaxEvents - 1, impl.MaxEvents} {
			s := runState()
			s.Streams[at] = stream(3, filled(kind, impl.MaxEvents), filled(kind, have))
			emit := "emit " + checkReg().Evts[at].Name + " $" + checkReg().Ress[at].Name + "; "
			fit := min(impl.MaxEvents-have, 2)
			want := impl.Done{State: cloneState(s), Fault: impl.FaultFull, Steps: 2 + fit}
			if fit == 2 {
				want.Fault, want.Steps, want.Cmds = impl.FaultNone, 3, []impl.Cmd{cmdSpawn()}
			}
			for range fit {
				sends(at, s.World.Res[at])(&want)
			}
			c := newReading(t, checkReg(), checked(t, "system s { spawn(); "+strings.Repeat(emit, 2)+"}"), "s", s)
			if d := c.atEachFuel(t); !sameDone(d, want) {
				t.Errorf("stream %d with %d:\nhave %s\nwant %s", at, have, doneText(d), doneText(want))
			}
			c.byTheTests(t, []int{1, 2})
			// the value comes first: its own fault, its own call
			y := checked(t, "fn f() int { $Score = 1; return 2; } system s { emit Hit f() / ($Score - 1); }")
			if d := newReading(t, checkReg(), y, "s", s).atEachFuel(t); d.Fault != impl.FaultZero || d.Steps != 4 {
				t.Error("the value of what does not fit", doneText(d))
			}
		}
	}
	// as many as there may be, in one run, of two streams
	allMean(t, []meanCase{
		{"system s { loop 199 { emit Hit 3; } }", 1 + 2*199, 0, sends(0, slices.Repeat([]impl.Val{whole(3)}, 199)...)},
		{"system s { loop 200 { emit Hit 3; } }", 1 + 2*199 + 1, impl.FaultFull, sends(0, slices.Repeat([]impl.Val{whole(3)}, 199)...)},
		{"system s { loop 200 { emit Burn 1.5; } }", 1 + 2*200, 0, sends(1, slices.Repeat([]impl.Val{float(1.5)}, 200)...)},
		{"fn f(x real) int { emit Burn x; return 1; } system s { loop 201 { do f(1.5); } }", 1 + 5*200 + 3, impl.FaultFull, sends(1, slices.Repeat([]impl.Val{float(1.5)}, 200)...)},
	})
}

func TestMeaningOfManyCommands(t *testing.T) {
	five := ent(5, 2)
	row := []impl.Cmd{cmdSpawn(), cmdKill(five), cmdPut(five, 0, whole(50)), cmdDrop(five, 4)}
	const four = "spawn(); kill; put Hp = .Hp; drop Mp; "
	for _, c := range []struct {
		text  string
		steps int
		fault int
	}{
		{"loop 15 { " + four + "}", 2 + 15*5 + 1, 0},
		{"loop 15 { " + four + "} $Score = 1; spawn();", 2 + 15*5 + 2, impl.FaultFull},
		{"loop 15 { " + four + "} $Score = 1; kill;", 2 + 15*5 + 2, impl.FaultFull},
		{"loop 15 { " + four + "} $Score = 1; put Hp = 1;", 2 + 15*5 + 2, impl.FaultFull},
		{"loop 15 { " + four + "} $Score = 1; drop Hp;", 2 + 15*5 + 2, impl.FaultFull},
		{"loop 16 { " + four + "}", 2 + 15*5 + 1, impl.FaultFull},
		// the values come first
		{"loop 15 { " + four + "} spawn(Hp = 1 / 0);", 2 + 15*5 + 1, impl.FaultZero},
		{"loop 15 { " + four + "} put Hp = 1 / 0;", 2 + 15*5 + 1, impl.FaultZero},
		{"loop 15 { " + four + "} spawn(Mp = f(), Hp = 1 / 0);", 2 + 15*5 + 1 + 3, impl.FaultZero},
		{"loop 15 { " + four + "} put Hp = f();", 2 + 15*5 + 1 + 3, impl.FaultFull},
	} {
		text := "fn f() int { $Score = 1; return 1; } system s { each with Pos, Hp { " + c.text + " } }"
		meansOn(t, text, runState(), c.steps, c.fault, func(d *impl.Done) {
			if c.fault == impl.FaultNone {
				d.Cmds = slices.Repeat(row, 15)
			}
			if strings.Contains(c.text, "$Score") || strings.Contains(c.text, "f()") {
				d.State.World.Res[0] = whole(1)
			}
		})
	}
}

// Both operands, always, and from the left.
func TestMeaningOfAndOr(t *testing.T) {
	const f = "fn f(b bool) bool { $Score = $Score * 10 + 1; return b; } fn g(b bool) bool { $Score = $Score * 10 + 2; return b; } "
	var list []meanCase
	for _, op := range []string{"and", "or", "=="} {
		for _, a := range []string{"yes", "no"} {
			for _, b := range []string{"yes", "no"} {
				value := map[string]bool{"and": a == "yes" && b == "yes", "or": a == "yes" || b == "yes", "==": a == b}[op]
				list = append(list,
					meanCase{f + "system s { $Score = 0; $Over = f(" + a + ") " + op + " g(" + b + "); }", 2 + 6, 0, both(scored(12), resBecomes(3, yesNo(value)))},
					meanCase{f + "system s { $Score = 0; $Over = " + a + " " + op + " g(" + b + "); }", 2 + 3, 0, both(scored(2), resBecomes(3, yesNo(value)))},
					meanCase{f + "system s { $Score = 0; $Over = f(" + a + ") " + op + " (1 / 0 < 5); }", 2 + 3, impl.FaultZero, scored(1)},
					meanCase{f + "system s { $Score = 0; $Over = (1 % 0 < 5) " + op + " f(" + a + "); }", 2, impl.FaultZero, scored(0)},
				)
			}
		}
	}
	list = append(list,
		meanCase{f + "system s { $Score = 0; if f(no) and g(yes) and f(yes) or g(no) { $Over = yes; } }", 2 + 12, 0, scored(1212)},
		meanCase{f + "system s { $Score = 0; if f(yes) or g(yes) or f(no) and g(no) { $Over = yes; } }", 2 + 12 + 1, 0, both(scored(1212), resBecomes(3, yesNo(true)))},
	)
	allMean(t, list)
}

// The step of a call comes behind its kids, whatever stands there.
func TestMeaningOfCallsWithFaults(t *testing.T) {
	const f = "fn g(n int) int { $Score = $Score + 1; return n; } fn f(a int, b int) int { $Over = yes; return a / b; } "
	allMean(t, []meanCase{
		{f + "system s { do f(1 / 0, g(1)); }", 1, impl.FaultZero, nothingElse},
		{f + "system s { do f(g(1), 1 / 0); }", 1 + 3, impl.FaultZero, scored(1001)},
		{f + "system s { do f(g(1), g(2) % 0); }", 1 + 6, impl.FaultZero, scored(1002)},
		{f + "system s { do f(g(1), g(0)); }", 1 + 6 + 3, impl.FaultZero, both(scored(1002), resBecomes(3, yesNo(true)))},
		{f + "system s { do f(f(1, 0), g(0)); }", 1 + 3, impl.FaultZero, resBecomes(3, yesNo(true))},
		{f + "system s { do f(g(6), g(g(3))); }", 1 + 9 + 3, 0, both(scored(1003), resBecomes(3, yesNo(true)))},
		// a fault deep within leaves all rounds
		{f + "system s { loop 5 { loop 4 { if yes { do f(1, 1002 - g($Score)); } } } $Wind = 0.5; }",
			// a round: if, do, g 3, f 3, behind; the third one stops in f
			2 + 2*9 + 8, impl.FaultZero, both(scored(1003), resBecomes(3, yesNo(true)))},
	})
}

func TestMeaningOfPicks(t *testing.T) {
	names := []string{"Hp", "Mp", "Hp", "Mp"}
	vals := []int{10, 1, 10, 1}
	for _, n := range append(someInts, 4, 5, 6, -4, -5, -6, 99, -99) {
		for length := 1; length <= len(names); length++ {
			left := n % length
			if left < 0 {
				left += length
			}
			s := runState()
			s.World.Res[0] = whole(n)
			x := checked(t, "system s { each with Hp, Mp { if .Hp == 10 { $Score = pick($Score of "+strings.Join(names[:length], ", ")+"); } } }")
			want := impl.Done{State: cloneState(s), Steps: 1 + 3 + 2}
			want.State.World.Res[0] = whole(vals[left])
			c := newReading(t, checkReg(), x, "s", s)
			if d := c.at(t, 6); !sameDone(d, want) {
				t.Errorf("pick %d of %d:\nhave %s\nwant %s", n, length, doneText(d), doneText(want))
			}
		}
	}
	allMean(t, []meanCase{
		{"system s { each with Mp, Hp { $Score = pick(1 / 0 of Mp, Hp); } }", 2, impl.FaultZero, nothingElse},
		{"fn f() int { $Wind = 0.5; return -1; } system s { each with Mp, Hp { $Score = pick(f() of Mp, Hp); } }", 1 + 2*(1+3+1), 0, both(scored(30), resBecomes(1, float(0.5)))},
		{"system s { each with Mp, Hp { .Hp = pick(pick(.Mp of Mp, Hp) of Mp, Hp); } }", 5, 0, both(cellBecomes(0, 0, 0, whole(1)), cellBecomes(0, 0, 1, whole(3)))},
	})
}

func TestMeaningOfDivisions(t *testing.T) {
	for _, n := range someInts {
		for _, by := range []int{0, 1, -1, 2, -7, leastInt, mostInt} {
			for op, sign := range []string{"/", "%"} {
				s := runState()
				q := impl.Stream{New: []impl.Val{whole(by)}}
				s.World.Res[0], s.Streams[0], s.Cursors[0] = whole(n), q, 0
				want := impl.Done{State: cloneState(s), Steps: 1 + 2 + 1 + 1}
				want.State.Cursors[0], want.State.World.Res[3] = 1, yesNo(true)
				switch {
				case by == 0:
					want.Fault, want.Steps = impl.FaultZero, 3
				case by == -1 && op == 0:
					want.State.World.Res[0] = whole(-n)
				case by == -1:
					want.State.World.Res[0] = whole(0)
				case op == 0:
					want.State.World.Res[0] = whole(n / by)
				default:
					want.State.World.Res[0] = whole(n % by)
				}
				if by != 0 {
					want.State.World.Res[1] = float(0.5)
				}
				x := checked(t, "system s { hear Hit as h { $Over = yes; $Score = $Score "+sign+" h; } $Wind = 0.5; }")
				c := newReading(t, checkReg(), x, "s", s)
				if d := c.atEachFuel(t); !sameDone(d, want) {
					t.Errorf("%d %s %d:\nhave %s\nwant %s", n, sign, by, doneText(d), doneText(want))
				}
			}
		}
	}
	// reals have no such fault
	allMean(t, []meanCase{{"system s { $Wind = 1.0 / 0.0; $Wind = -$Wind; }", 2, 0, resBecomes(1, float(-inf))}})
}

// callsDeep has functions each of which calls the one ahead of it, and tells on
// the way down and on the way up how far it has come.
func callsDeep(deep int) string {
	text := "fn " + longName(0) + "() int { $Score = $Score + 1; return 1; } "
	for i := 1; i < deep; i++ {
		text += "fn " + longName(i) + "() int { $Score = $Score + 1; let n = " + longName(i-1) + "(); $Wind = $Wind + 1.0; return n + 1; } "
	}
	return text + "system s { $Score = " + longName(deep-1) + "(); }"
}

// The fuel runs out at each depth, on the way down and on the way up.
func TestMeaningOfDeepCalls(t *testing.T) {
	for _, deep := range []int{1, 2, 5, 30} {
		s := runState()
		s.World.Res[0], s.World.Res[1] = whole(0), float(0)
		// down: the statement of s, then of each function its call, its store and its let (the last one's return)
		// up: a store and a return of each function but the last one
		steps := 1 + 3*deep + 2*(deep-1)
		c := newReading(t, checkReg(), checked(t, callsDeep(deep)), "s", s)
		for fuel := range steps + 2 {
			want := impl.Done{State: cloneState(s), Fault: impl.FaultFuel, Steps: min(fuel, steps)}
			want.State.World.Res[0] = whole(min(fuel/3, deep))
			want.State.World.Res[1] = float(float64(max(0, min((fuel-3*deep)/2, deep-1))))
			if fuel >= steps {
				want.Fault = impl.FaultNone
				want.State.World.Res[0] = whole(deep)
			}
			if d := c.at(t, fuel); !sameDone(d, want) {
				t.Fatalf("%d deep, fuel %d:\nhave %s\nwant %s", deep, fuel, doneText(d), doneText(want))
			}
		}
		c.byTheTests(t, someFuels(steps))
	}
}

// The deepest calls, the deepest and the widest expressions, the deepest blocks
// that a tree has room for.
func TestMeaningOfTheDeepestTrees(t *testing.T) {
	tops := []*plant{fnPlant("x", impl.KInt, blockPlant(grown(impl.NReturn, wholeLeaf(7))))}
	for len(tops) < 998 {
		call := named(impl.NCall, tops[len(tops)-1].text)
		tops = append(tops, fnPlant(longName(len(tops)), impl.KInt, blockPlant(grown(impl.NReturn, call))))
	}
	sum, signs := wholeLeaf(1), realLeaf("1.5")
	for range (impl.MaxNodes - 4) / 2 {
		sum = opPlant(impl.OpAdd, wholeLeaf(1), sum)
	}
	for range impl.MaxNodes - 5 {
		signs = turnPlant(impl.TurnNeg, signs)
	}
	wide, call := fnPlant("f", impl.KInt, nil), named(impl.NCall, "f")
	wide.kids = nil
	for i := range 1990 {
		wide.kids = append(wide.kids, leaf(impl.NParam, longName(i), impl.KInt))
		call.kids = append(call.kids, wholeLeaf(i))
	}
	wide.kids = append(wide.kids, blockPlant(grown(impl.NReturn, localLeaf(longName(1988)))))
	blocks := named(impl.NSetRes, "Score", wholeLeaf(5))
	for range (impl.MaxNodes - 5) / 3 {
		blocks = grown(impl.NLoop, wholeLeaf(1), blockPlant(blocks))
	}
	for _, c := range []struct {
		what  string
		tops  []*plant
		steps int
		then  func(d *impl.Done)
	}{
		{"calls", append(tops, systemPlant("s", named(impl.NSetRes, "Score", named(impl.NCall, tops[len(tops)-1].text)))), 1 + 2*998, scored(7)},
		{"sums", []*plant{systemPlant("s", named(impl.NSetRes, "Score", sum))}, 1, scored(1999)},
		{"signs", []*plant{systemPlant("s", named(impl.NSetRes, "Wind", signs))}, 1, resBecomes(1, float(-1.5))},
		{"arguments", []*plant{wide, systemPlant("s", named(impl.NSetRes, "Score", call))}, 3, scored(1988)},
		{"blocks", []*plant{systemPlant("s", blocks)}, 0, nil},
	} {
		x := treeOf(c.tops...)
		if code, _ := impl.Check(checkReg(), x); code != impl.ChkDone || len(x.Nodes) < impl.MaxNodes-15 {
			t.Fatal("not as large as can be:", c.what, code, len(x.Nodes))
		}
		r := newReading(t, checkReg(), x, "s", runState())
		if c.then == nil {
			// the blocks are 1331 deep, with a step behind each: the fuel runs out on the way back
			d := r.atFuels(t, []int{0, 1, 1330, 1331, 1332, 1333, 1999})
			if d.Fault != impl.FaultFuel || d.State.World.Res[0] != whole(5) {
				t.Error(c.what, doneText(d))
			}
			if d := r.at(t, 1331); d.State.World.Res[0] != whole(1000) {
				t.Error(c.what, doneText(d))
			}
			continue
		}
		want := impl.Done{State: runState(), Steps: c.steps}
		c.then(&want)
		if d := r.atFuels(t, someFuels(c.steps)); !sameDone(d, want) {
			t.Errorf("%s:\nhave %s\nwant %s", c.what, doneText(d), doneText(want))
		}
	}
}

// Expressions are found out again each time that a block is done.
func TestMeaningInEachRound(t *testing.T) {
	allMean(t, []meanCase{
		{"fn f(n int) int { if n < 3 { $Score = $Score + 1; } return $Score; } system s { $Score = 0; let a = 0; loop 3 { a = a * 10 + f($Score); } $Score = a; }", 4 + 3*(1+4+1), 0, scored(123)},
		{"system s { $Score = 1; loop 4 { if $Over { $Score = $Score * 2; } else { $Score = $Score + 1; } $Over = not $Over; } }", 2 + 4*4, 0, scored(10)},
		{"system s { let n = 2; loop 2 { loop n { $Score = $Score + 1; } n = n + 3; } }", 2 + (1 + 4 + 1 + 1) + (1 + 10 + 1 + 1), 0, scored(1007)},
	})
}
