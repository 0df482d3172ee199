package tests

import (
	"fmt"
	"slices"
	"strings"
	"testing"

	"loop.example/g00070/impl"
)

// A fault in the first run, in each one behind it, and in the last one: no
// further run is made, nothing is told as written down, what was done stays, and
// the steps are those of that run.
func TestFaultsInEachRun(t *testing.T) {
	s := staged("", "a:", "b: $Score = $Score - 1; spawn(Hp = $Score); emit Hit $Score; hear Hit as h { $Wind = real(h); } if $Score < 100 { loop 7 { } } let q = 100 / $Score; $Over = yes;")
	for fails := 1; fails <= impl.MaxTimes+1; fails++ {
		g := gameOf(s, runState())
		g.World.Res[0], g.Streams[0], g.Cursors[1] = whole(fails), impl.Stream{}, []int{0, 0, 0, 0}
		for times := range impl.MaxTimes + 1 {
			done := min(times, fails)
			want, cmds := trouble(1, 0, 0), 0
			if done > 0 {
				want, cmds = trouble(1, 0, 17), done
			}
			if done == fails {
				want, cmds = trouble(1, impl.FaultZero, 16), 0
			}
			next := taskIs(t, s, g, 1, times, 100, cmds, want)
			scoreIs(t, next, fails-done)
			if len(next.Streams[0].New) != done || next.Cursors[1][0] != done || next.World.Res[3] != yesNo(done > 0 && fails > 1) {
				t.Errorf("fails %d, %d times:\n%s", fails, times, gameText(next))
			}
			liveIs(t, next, 5)
		}
	}
}

// The fuel is that of each run; one run that needs more fails.
func TestFuelOfEachRun(t *testing.T) {
	s := staged("", "a: loop $Score { } $Score = $Score + 1; spawn();")
	for _, c := range []struct {
		score, times, fuel int
		want               impl.Trouble
		behind             int
	}{
		{0, 4, 6, trouble(0, 0, 6), 4},
		{0, 4, 5, trouble(0, impl.FaultFuel, 5), 4},
		{0, 4, 4, trouble(0, impl.FaultFuel, 4), 3},
		{0, 3, 5, trouble(0, 0, 5), 3},
		{0, 4, 3, trouble(0, impl.FaultFuel, 3), 2},
		{0, 4, 2, trouble(0, impl.FaultFuel, 2), 1},
		{0, 4, 1, trouble(0, impl.FaultFuel, 1), 0},
		{0, 4, 0, trouble(0, impl.FaultFuel, 0), 0},
		{0, 0, 0, trouble(0, 0, 0), 0},
		{impl.MaxFuel - 3, 1, impl.MaxFuel, trouble(0, 0, impl.MaxFuel), impl.MaxFuel - 2},
		{impl.MaxFuel - 3, 2, impl.MaxFuel, trouble(0, impl.FaultFuel, impl.MaxFuel), impl.MaxFuel - 1},
		{impl.MaxFuel - 3, 3, impl.MaxFuel, trouble(0, impl.FaultFuel, impl.MaxFuel), impl.MaxFuel - 1},
		{impl.MaxFuel - 6, 4, impl.MaxFuel, trouble(0, 0, impl.MaxFuel), impl.MaxFuel - 2},
	} {
		g := newGame(t, s)
		g.World.Res[0] = whole(c.score)
		cmds := 0
		if c.want.Fault == impl.FaultNone {
			cmds = c.times
		}
		scoreIs(t, taskIs(t, s, g, 0, c.times, c.fuel, cmds, c.want), c.behind)
	}
}

// Commands of all runs of just MaxCmds, and one more: the run that brings them
// above has the fault, and what it has done stays.
func TestCommandsOfAllRuns(t *testing.T) {
	s := staged("", "a: $Score = $Score + 1; emit Hit $Score; loop 15 { spawn(); } $Over = yes;")
	steps := 4 + 15*2
	for times := range impl.MaxTimes + 1 {
		want := trouble(0, 0, steps)
		if times == 0 {
			want.Steps = 0
		}
		taskIs(t, s, newGame(t, s), 0, times, 100, 15*times, want)
	}
	for _, c := range []struct{ each, times, ran, cmds int }{
		{60, 1, 1, 60}, {60, 2, 2, 0}, {60, 4, 2, 0}, {30, 2, 2, 60}, {30, 3, 3, 0}, {30, 4, 3, 0}, {31, 2, 2, 0}, {31, 4, 2, 0}, {20, 3, 3, 60}, {20, 4, 4, 0},
		{21, 2, 2, 42}, {21, 3, 3, 0}, {21, 4, 3, 0}, {15, 4, 4, 60}, {16, 3, 3, 48}, {16, 4, 4, 0}, {0, 4, 4, 0}, {1, 4, 4, 4},
	} {
		q := turnedBy(s, func(s *impl.Sched) { s.Text = strings.ReplaceAll(s.Text, "15", fmt.Sprint(c.each)) })
		want := trouble(0, 0, 4+2*c.each)
		if c.each*c.ran > impl.MaxCmds {
			want.Fault = impl.FaultFull
		}
		next := taskIs(t, q, newGame(t, q), 0, c.times, 200, c.cmds, want)
		scoreIs(t, next, c.ran)
		if len(next.Streams[0].New) != c.ran || next.World.Res[3] != yesNo(true) {
			t.Errorf("%v\n%s", c, gameText(next))
		}
	}
	// within one run it is Mean that has the fault, at the command
	q := turnedBy(s, func(s *impl.Sched) { s.Text = strings.ReplaceAll(s.Text, "15", "61") })
	next := taskIs(t, q, newGame(t, q), 0, 4, 200, 0, trouble(0, impl.FaultFull, 3+61*2-1))
	scoreIs(t, next, 1)
	if next.World.Res[3] != yesNo(false) {
		t.Error("the run is not over at its fault")
	}
	// the first run within the limit, the second one with a fault of its own
	q = staged("", "a: $Score = $Score + 1; loop 59 { spawn(); } if 1 < $Score { spawn(); spawn(); } $Wind = 5.0;")
	scoreIs(t, taskIs(t, q, newGame(t, q), 0, 2, 200, 0, trouble(0, impl.FaultFull, 1+1+118+1+2)), 2)
}

// As many as there may be, and just one more.
func TestOneCommandTooMany(t *testing.T) {
	for _, c := range []struct {
		score, times int
		ran, cmds    int
		fault, steps int
	}{
		{60, 1, 1, 60, 0, 123}, {60, 2, 2, 0, impl.FaultFull, 5}, {60, 4, 2, 0, impl.FaultFull, 5},
		{59, 2, 2, 60, 0, 5}, {59, 3, 3, 0, impl.FaultFull, 5}, {59, 4, 3, 0, impl.FaultFull, 5},
		{58, 3, 3, 60, 0, 5}, {58, 4, 4, 0, impl.FaultFull, 5},
		{57, 4, 4, 60, 0, 5}, {61, 1, 1, 0, impl.FaultFull, 122}, {61, 2, 1, 0, impl.FaultFull, 122},
	} {
		// Score commands in the first run, and one in each behind it
		s := staged("", "a every=1: loop $Score { spawn(); } $Score = 1; $Wind = $Wind + 1.0;", "b: spawn(Hp = 1);")
		g := newGame(t, s)
		g.World.Res[0] = whole(c.score)
		next := taskIs(t, s, g, 0, c.times, 200, c.cmds, trouble(0, c.fault, c.steps))
		if want := float(float64(c.ran - yes(c.score > impl.MaxCmds))); !same(next.World.Res[1], want) {
			t.Error(c, "has run", next.World.Res[1])
		}
		f := frameDone(t, s, g, c.times, 200)
		if len(f.Troubles) != yes(c.fault != 0) || len(f.Codes[0][0]) != c.cmds || len(f.Codes[0][1]) != 1 {
			t.Error(c, frameText(f))
		}
	}
}

// The same in a frame: who has too many drops all of them, and nobody else does.
func TestCommandsOfAllRunsInAFrame(t *testing.T) {
	s := staged("", "a every=1: loop 15 { spawn(); }", "b every=1: loop 16 { spawn(); } $Score = $Score + 1;", "c: spawn(Hp = 7);")
	g := newGame(t, s)
	sixty := "[" + strings.TrimSpace(strings.Repeat("0 ", 60)) + "]"
	f := frameIs(t, s, g, 4, 100, "[{1 4 34}]", "[[["+sixty[1:]+" [] [0]]]")
	scoreIs(t, f, 4)
	liveIs(t, f, 61)
	f = frameIs(t, s, g, 3, 100, "[]", "[[["+sixty[1 : len(sixty)-1][:2*45-1]+"] ["+sixty[1:][:2*48-1]+"] [0]]]")
	scoreIs(t, f, 3)
	liveIs(t, f, 94)
}

// Events that fill a stream in a second run: those of both runs stay.
func TestStreamsFullInASecondRun(t *testing.T) {
	s := staged("", "a every=1: spawn(); $Score = $Score + 1; loop 120 { emit Hit $Score; }", "b: emit Hit 9; spawn();", "c: hear Hit as h { $Wind = $Wind + 1.0; }")
	g := newGame(t, s)
	next := taskIs(t, s, g, 0, 2, 500, 0, trouble(0, impl.FaultFull, 3+80*2+1))
	if !sameVals(next.Streams[0].New, append(slices.Repeat([]impl.Val{whole(1)}, 120), slices.Repeat([]impl.Val{whole(2)}, 80)...)) {
		t.Error(next.Streams[0])
	}
	next = frameIs(t, s, g, 2, 500, "[{0 4 164} {1 4 1}]", "[[[] [] []]]")
	if len(next.Streams[0].Old) != 200 || next.Cursors[2][0] != 200 || !same(next.World.Res[1], float(200)) {
		t.Error(gameText(next))
	}
	// in the next frame there is room again
	next = frameIs(t, s, next, 1, 500, "[]", "[[[0] [0] []]]")
	if q := next.Streams[0]; q.First != 200 || len(q.Old) != 121 || !same(next.World.Res[1], float(321)) {
		t.Error(gameText(next))
	}
}

func TestTimesOfATask(t *testing.T) {
	s := staged("", "a: $Score = $Score + 1; spawn();", "b:")
	g := gameOf(s, runState())
	for _, times := range []int{-1, -2, leastInt, impl.MaxTimes + 1, impl.MaxTimes + 2, 256, 1 << 32, mostInt} {
		for system := range 2 {
			taskRefused(t, "times", s, g, system, times, 100)
		}
	}
	for times := range impl.MaxTimes + 1 {
		steps := min(2, 2*times)
		scoreIs(t, taskIs(t, s, g, 0, times, 100, times, trouble(0, 0, steps)), 1000+times)
		if next := taskIs(t, s, g, 1, times, 100, 0, trouble(1, 0, 0)); !sameGame(next, g) {
			t.Error("a system that does nothing leaves", gameText(next))
		}
	}
	if next := taskIs(t, s, g, 0, 0, 100, 0, trouble(0, 0, 0)); !sameGame(next, g) {
		t.Error("no run leaves", gameText(next))
	}
}

func TestFuels(t *testing.T) {
	s := staged("", "a: $Score = $Score + 1; spawn();", "b: each with Mp { .Mp = 7; }")
	g := gameOf(s, runState())
	for _, fuel := range wrongFuels {
		for system := range 2 {
			for times := range impl.MaxTimes + 1 {
				taskRefused(t, "fuel", s, g, system, times, fuel)
			}
		}
		frameRefused(t, "fuel", s, g, 0, fuel, impl.SchMany, 1)
		frameRefused(t, "fuel, no system", impl.Sched{}, impl.Game{}, 0, fuel, impl.SchMany, 1)
	}
	frameIs(t, s, g, 0, 0, "[{0 3 0} {1 3 0}]", "[[[] []]]")
	frameIs(t, s, g, 0, 1, "[{0 3 1} {1 3 1}]", "[[[] []]]")
	frameIs(t, s, g, 0, 2, "[{1 3 2}]", "[[[0] []]]")
	frameIs(t, s, g, 0, 4, "[{1 3 4}]", "[[[0] []]]")
	for _, fuel := range []int{5, impl.MaxSteps - 1, impl.MaxSteps, impl.MaxFuel} {
		frameIs(t, s, g, 0, fuel, "[]", "[[[0] []]]")
	}
	if impl.MaxSteps != 2000 {
		t.Error("MaxSteps", impl.MaxSteps)
	}
}

func TestNumbersOfSystems(t *testing.T) {
	for n := range impl.MaxSys + 1 {
		var tops []string
		for i, name := range schedNames[:n] {
			tops = append(tops, fmt.Sprintf("%s: $Score = %d;", name, i))
		}
		s := staged("", tops...)
		g := newGame(t, s)
		for system := range n {
			scoreIs(t, taskIs(t, s, g, system, 1, 10, 0, trouble(system, 0, 1)), system)
		}
		for _, system := range []int{-1, -2, leastInt, n, n + 1, 100, mostInt} {
			for _, times := range []int{0, 1, 4} {
				taskRefused(t, "the system's number", s, g, system, times, 10)
			}
		}
	}
}

func TestTicks(t *testing.T) {
	s := staged("", "a every=1000000: $Score = $Score + 1;", "b: $Wind = 1.0;", "c every=1: $Over = yes; spawn();")
	g := newGame(t, s)
	for _, tick := range []int{-1, -2, leastInt, impl.MaxTick + 1, impl.MaxTick + 2, mostInt} {
		frameRefused(t, "a tick", s, g, tick, 10, impl.SchMany, 1)
		frameRefused(t, "a tick, no system", impl.Sched{}, impl.Game{}, tick, 10, impl.SchMany, 1)
	}
	next := frameIs(t, s, g, 0, 10, "[]", "[[[]]]")
	scoreIs(t, next, 0)
	next = frameIs(t, s, next, impl.MaxTick-1, 10, "[]", "[[[] [0 0 0 0]]]")
	scoreIs(t, next, 0)
	next = frameIs(t, s, next, 1, 10, "[]", "[[[] [] [0]]]")
	scoreIs(t, next, 1)
	next = frameIs(t, s, next, impl.MaxTick, 10, "[]", "[[[] [] [0 0 0 0]]]")
	scoreIs(t, next, 2)
	// Accs that Times has never left
	wild := gameBy(g, func(g *impl.Game) { g.Clocks.Acc = []int{4000000, 4000000, 4000000} })
	scoreIs(t, frameIs(t, s, wild, impl.MaxTick, 10, "[]", "[[[] [] [0 0 0 0]]]"), 4)
}

// Whose times are 0 is in no list of codes; a stage in which nobody runs has
// none, but is a stage.
func TestWhoDoesNotRun(t *testing.T) {
	s := staged("a>b b>c", "a in=1: spawn(Hp = 1);", "b in=2: spawn(Hp = 2); $Wind = $Wind + 1.0;", "c in=3: each with Hp { kill; }", "d every=5: spawn(Mp = 1);")
	g := newGame(t, s)
	planIs(t, s, "0 1 2 0 | 0 3 1 2 | ")
	world := impl.NewWorld(s.Reg)
	for range 2 {
		world, _, _ = impl.Spawn(s.Reg, world, []impl.Cell{cell(0, whole(5))})
	}
	for phase, codes := range []struct{ alone, withD string }{
		{"[[] [] []]", "[[[0]] [] []]"},
		{"[[[0]] [] []]", "[[[0] [0]] [] []]"},
		{"[[] [[0]] []]", "[[[0]] [[0]] []]"},
		{"[[] [] [[0 0]]]", "[[[0]] [] [[0 0]]]"},
		{"[[] [] []]", "[[[0]] [] []]"},
	} {
		q := gameBy(g, func(g *impl.Game) {
			g.World = cloneWorld(world)
			g.World.Res[0] = whole(phase)
		})
		frameIs(t, s, q, 0, 100, "[]", codes.alone)
		frameIs(t, s, q, 4, 100, "[]", codes.alone)
		frameIs(t, s, q, 5, 100, "[]", codes.withD)
	}
	// nobody at all, and a trouble of nobody
	none := staged("a>b", "a when=Over: let q = 1 / 0; spawn();", "b when=Over: let q = 1 / 0;")
	next := frameIs(t, none, newGame(t, none), 0, 100, "[]", "[[] []]")
	next.World.Res[3] = yesNo(true)
	frameIs(t, none, next, 0, 100, "[{0 2 1} {1 2 1}]", "[[[]] [[]]]")
}

// Troubles and Codes stand in the plan's Order, not by the systems' numbers.
func TestTroublesInThePlansOrder(t *testing.T) {
	s := staged("d>c c>b b>a", "a: let q = 1 / 0;", "b: spawn(); spawn(); let q = 2 / 0;", "c: let q = 3; let r = q / 0; spawn();", "d: let q = 4; let r = 5; let z = r / 0;", "e: spawn(Hp = 2); spawn(Hp = 3);")
	planIs(t, s, "2 1 0 0 0 | 3 2 4 1 0 | 3>2")
	frameIs(t, s, newGame(t, s), 0, 100, "[{3 2 3} {2 2 2} {1 2 3} {0 2 1}]", "[[[] [] [0 0]] [[]] [[]]]")
	frameIs(t, s, newGame(t, s), 0, 2, "[{3 3 2} {2 2 2} {1 3 2} {0 2 1}]", "[[[] [] [0 0]] [[]] [[]]]")
}

// A stage for each of as many systems as there may be, and all of them in one.
func TestMostSystemsAndStages(t *testing.T) {
	var tops []string
	for _, name := range schedNames[:impl.MaxSys] {
		tops = append(tops, name+" every=1: spawn(Hp = $Score); each with Hp { $Score = $Score + 1; }")
	}
	chain := staged(chainOf(schedNames[:impl.MaxSys]...), tops...)
	g := frameIs(t, chain, newGame(t, chain), 1, 100, "[]", "["+strings.TrimSpace(strings.Repeat("[[0]] ", impl.MaxSys))+"]")
	scoreIs(t, g, 120)
	liveIs(t, g, 16)
	side := staged("", tops...)
	g = frameIs(t, side, newGame(t, side), 4, 100, "[]", "[["+strings.TrimSpace(strings.Repeat("[0 0 0 0] ", impl.MaxSys))+"]]")
	scoreIs(t, g, 0)
	liveIs(t, g, 64)
	frameDone(t, chain, g, 2, 1000)
}

// Buffers as full as may be, of as many systems as may be, until the world is
// full.
func TestFullBuffersOfAllSystems(t *testing.T) {
	var tops []string
	for _, name := range schedNames[:impl.MaxSys] {
		tops = append(tops, name+": loop 60 { spawn(Hp = 1); }")
	}
	s := staged("", tops...)
	g := newGame(t, s)
	for _, want := range []int{960, 1920, 2000, 2000} {
		f := frameDone(t, s, g, 0, 200)
		full := 0
		for _, code := range slices.Concat(f.Codes[0]...) {
			full += yes(code == impl.WFull)
		}
		liveIs(t, f.Game, want)
		if had := len(impl.EntList(g.World.Ents)); full != 960-(want-had) {
			t.Error("full", full, "times, from", had, "to", want)
		}
		g = f.Game
	}
}

// What two systems do to one thing: the later one finds it as the earlier one
// left it.
func TestCodesOfTwoSystems(t *testing.T) {
	s := staged("", "a: each with Hp, Mp { kill; }", "b: each with Hp { drop Hp; put Up = yes; }", "c: each with Hp { kill; }")
	frameIs(t, s, gameOf(s, runState()), 0, 100, "[]", "[[[0 0] [2 2 2 2 0 0 0 0] [2 2 0 0]]]")
	s = staged("b>a", "a: each with Hp, Mp { kill; }", "b: each with Hp { drop Hp; put Up = yes; }")
	frameIs(t, s, gameOf(s, runState()), 0, 100, "[]", "[[[0 0 0 0 0 0 0 0]] [[]]]")
}

// A list of cursors for each system, and a number in it for each stream.
func TestCursorsTooFewAndTooMany(t *testing.T) {
	s := staged("", "a: hear Hit as h { }", "b: $Score = 1;", "c:")
	right := gameOf(s, runState())
	frameDone(t, s, right, 0, 50)
	for what, turn := range map[string]func(g *impl.Game){
		"no list":             func(g *impl.Game) { g.Cursors = nil },
		"one list too few":    func(g *impl.Game) { g.Cursors = g.Cursors[:2] },
		"one list too many":   func(g *impl.Game) { g.Cursors = append(g.Cursors, []int{0, 0, 0, 0}) },
		"an empty one more":   func(g *impl.Game) { g.Cursors = append(g.Cursors, nil) },
		"far too many":        func(g *impl.Game) { g.Cursors = slices.Repeat(g.Cursors, 100) },
		"lists of no streams": func(g *impl.Game) { g.Cursors = make([][]int, 3) },
	} {
		gameRefused(t, what, s, gameBy(right, turn))
	}
	for at := range 3 {
		gameRefused(t, "a list that is too short", s, gameBy(right, func(g *impl.Game) { g.Cursors[at] = g.Cursors[at][:3] }))
		gameRefused(t, "a list that is too long", s, gameBy(right, func(g *impl.Game) { g.Cursors[at] = append(g.Cursors[at], 0) }))
		gameRefused(t, "an empty list", s, gameBy(right, func(g *impl.Game) { g.Cursors[at] = nil }))
	}
	// without systems there is no list, and without streams they are empty
	none := impl.Sched{Reg: checkReg()}
	bare := gameOf(none, runState())
	frameDone(t, none, bare, 0, 50)
	gameRefused(t, "a list of nobody", none, gameBy(bare, func(g *impl.Game) { g.Cursors = [][]int{{0, 0, 0, 0}} }))
	gameRefused(t, "an empty list of nobody", none, gameBy(bare, func(g *impl.Game) { g.Cursors = make([][]int, 1) }))
	mute := impl.Sched{Text: "system a { }", Systems: []impl.Sys{{Name: "a"}}}
	frameDone(t, mute, newGame(t, mute), 0, 50)
	gameRefused(t, "a cursor of no stream", mute, gameBy(newGame(t, mute), func(g *impl.Game) { g.Cursors[0] = []int{0} }))
	gameRefused(t, "no list", mute, gameBy(newGame(t, mute), func(g *impl.Game) { g.Cursors = nil }))
}

// The promised things of a second run count on behind those of the first one.
func TestPromisedThingsOfASecondRun(t *testing.T) {
	s := staged("", "a: spawn(Hp = $Score); $Score = $Score + 1; spawn(Mp = $Score);")
	g := newGame(t, s)
	_, cmds, _ := taskDone(t, s, g, 0, 2, 100)
	if len(cmds) != 4 {
		t.Fatal(cmds)
	}
	more := slices.Concat(cmds, []impl.Cmd{cmdPut(promised(1), 5, float(1)), cmdPut(promised(3), 5, float(3)), cmdKill(promised(2)), cmdDrop(promised(4), 4), cmdKill(promised(5))})
	w := mergedTo(t, s.Reg, g.World, [][]impl.Cmd{more}, []int{0, 0, 0, 0, 0, 0, 0, 0, impl.WDead})
	for _, c := range []struct {
		e   impl.Ent
		hp  int
		hot float64
	}{{ent(0, 0), 0, 1}, {ent(2, 0), 1, 3}} {
		hp, _ := impl.Get(s.Reg, w, c.e, 0)
		hot, _ := impl.Get(s.Reg, w, c.e, 5)
		if hp != whole(c.hp) || !same(hot, float(c.hot)) {
			t.Error(c, hp, hot)
		}
	}
	// no system can name them: whom a second run names are things that are live
	kills := staged("", "a every=1: spawn(Hp = 1); each with Hp { put Mp = 1; }")
	q := gameOf(kills, runState())
	_, cmds, _ = taskDone(t, kills, q, 0, 2, 100)
	for _, c := range cmds {
		if c.Kind == impl.CmdPut && !impl.EntLive(q.World.Ents, c.Who) {
			t.Error("a command names", c.Who)
		}
	}
	frameIs(t, kills, q, 2, 100, "[]", "[[[0 0 0 0 0 0 0 0 0 0]]]")
}

// What was heard is not heard again in a second run, nor in a second frame; a
// fault does not take the cursor back.
func TestHeardOnce(t *testing.T) {
	s := staged("", "a every=1: hear Hit as h { $Score = $Score + 1; } hear Went as w { let q = 1 / 0; }")
	g := gameOf(s, runState())
	g.Cursors[0] = []int{0, 0, 0, 1}
	for times := 1; times <= impl.MaxTimes; times++ {
		steps := 2
		if times == 1 {
			steps += 3 * 2
		}
		next := taskIs(t, s, g, 0, times, 100, 0, trouble(0, 0, steps))
		scoreIs(t, next, 1003)
		if fmt.Sprint(next.Cursors[0]) != "[8 0 0 1]" {
			t.Error(next.Cursors)
		}
		scoreIs(t, frameIs(t, s, frameIs(t, s, g, times, 100, "[]", "[[[]]]"), times, 100, "[]", "[[[]]]"), 1003)
	}
	g.Cursors[0][3] = 0
	next := taskIs(t, s, g, 0, 4, 100, 0, trouble(0, impl.FaultZero, 2+3*2+1))
	if fmt.Sprint(next.Cursors[0]) != "[8 0 0 1]" {
		t.Error(next.Cursors)
	}
	scoreIs(t, taskIs(t, s, next, 0, 1, 100, 0, trouble(0, 0, 2)), 1003)
}

// Streams are turned once a frame, behind the last stage, also those that come
// to the end of their numbers.
func TestStreamsAreTurned(t *testing.T) {
	s := staged("a>b b>c", "a: spawn(); emit Hit 1;", "b: spawn(); emit Hit 2;", "c: emit Hit 3; hear Hit as h { $Score = $Score * 10 + h; }")
	g := gameOf(s, runState())
	g.World.Res[0], g.Streams[0] = whole(0), stream(impl.MaxFirst-2, numbered(7, 2), numbered(9, 1))
	next := frameIs(t, s, g, 0, 100, "[]", "[[[0]] [[0]] [[]]]")
	scoreIs(t, next, 789123)
	if !sameStream(next.Streams[0], stream(impl.MaxFirst, []impl.Val{whole(9), whole(1), whole(2), whole(3)}, nil)) {
		t.Error(next.Streams[0])
	}
	next = frameIs(t, s, next, 0, 100, "[]", "[[[0]] [[0]] [[]]]")
	if !sameStream(next.Streams[0], stream(0, []impl.Val{whole(1), whole(2), whole(3)}, nil)) || next.Cursors[2][0] != impl.MaxFirst+7 {
		t.Error(next.Streams[0], next.Cursors)
	}
}
