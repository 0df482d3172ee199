package tests

import (
	"fmt"
	"slices"
	"strings"
	"testing"

	"loop.example/g00070/impl"
)

// Who does not run stands between two that do: the third one waits for the first
// one all the same, however many stand between, and by whatever they wait.
func TestSidesByWayOfWhoDoesNotRun(t *testing.T) {
	for _, c := range []struct {
		rules string
		tops  []string
		edges string
		moves string
	}{
		{"a>b b>c", []string{"a: $Score = $Score + 1;", "b when=Over:", "c: $Wind = 3.0;"}, "0>1 1>2", "+0 -0 +2 -2"},
		{"", []string{"a: $Score = $Score + 1;", "b when=Over: $Wind = real($Score);", "c: let q = $Wind;"}, "0>1 1>2", "+0 -0 +2 -2"},
		{"", []string{"a: emit Hit 1;", "b when=Over: hear Hit as h { $Wind = real(h); }", "c: let q = $Wind;"}, "0>1 1>2", "+0 -0 +2 -2"},
		{"a>b b>c c>d", []string{"a:", "b when=Over:", "c every=1000:", "d:"}, "0>1 1>2 2>3", "+0 -0 +3 -3"},
		{"c>b b>a", []string{"a:", "b in=7:", "c:"}, "1>0 2>1", "+2 -2 +0 -0"},
		{"a>b b>c c>d d>e", []string{"a:", "b when=Over:", "c:", "d when=Over:", "e:"}, "0>1 1>2 2>3 3>4", "+0 -0 +2 -2 +4 -4"},
		{"a>b b>d c>d", []string{"a:", "b when=Over:", "c when=Over:", "d:"}, "0>1 1>3 2>3", "+0 -0 +3 -3"},
	} {
		s := staged(c.rules, c.tops...)
		a := playOf(t, s, newGame(t, s), 5, 100)
		if edges := edgesText(a.plan.Edges); edges != c.edges || len(a.shifts) != 1 {
			t.Fatal("edges", edges, "of", s.Text)
		}
		// only one move there is at any time, so all picks lead to the same moves
		for _, pick := range []int{0, 1, 2, -1, 7} {
			for workers := 1; workers <= impl.MaxWorkers; workers++ {
				a.sideIs(t, workers, slices.Repeat([]int{pick}, 10), c.moves)
			}
		}
		a.inAll(t, 0)
	}
}

// The same where all run, and where the one between them is in no rule.
func TestSidesByWayOfNobody(t *testing.T) {
	s := staged("", "a: $Score = $Score + 1;", "b when=Over:", "c: $Wind = 3.0;")
	a := playOf(t, s, newGame(t, s), 5, 100)
	a.sideIs(t, 2, []int{1, 1, 1, 1}, "+2 +0 -2 -0")
	s = staged("a>b b>c", "a: $Score = $Score + 1;", "b:", "c: $Wind = 3.0;")
	a = playOf(t, s, newGame(t, s), 5, 100)
	a.sideIs(t, 2, []int{1, 1, 1, 1}, "+0 -0 +1 -1 +2 -2")
	// of a fork, only those wait whom the way leads to
	s = staged("a>b b>c", "a: $Score = $Score + 1;", "b when=Over:", "c: $Wind = 3.0;", "d: $Home = pair(1.0, 1.0);")
	a = playOf(t, s, newGame(t, s), 5, 100)
	a.sideIs(t, 3, slices.Repeat([]int{1}, 8), "+3 +0 -3 -0 +2 -2")
	a.sideIs(t, 3, []int{0, 1, 0, 1, 1}, "+0 +3 -0 +2 -3 -2")
}

func idleStage() impl.Sched {
	return staged("a>b b>c b>e", "a: spawn(Hp = 1);", "b when=Over: spawn(Hp = 2);", "c: $Score = $Score + 1;", "d: $Wind = 1.0;", "e: $Home = pair(1.0, 2.0);")
}

// A stage in which nobody runs has no moves and an empty list in Codes; the
// picks go on behind it.
func TestSidesOfAStageInWhichNobodyRuns(t *testing.T) {
	s := idleStage()
	planIs(t, s, "0 1 2 0 2 | 0 3 1 2 4 | ")
	a := playOf(t, s, newGame(t, s), 1, 100)
	if fmt.Sprint(a.one.Codes) != "[[[0] []] [] [[] []]]" {
		t.Error(a.one.Codes)
	}
	ones := slices.Repeat([]int{1}, 20)
	a.sideIs(t, 2, ones, "+3 +0 -3 -0 |  | +4 +2 -4 -2")
	a.sideIs(t, 2, ones[:8], "+3 +0 -3 -0 |  | +4 +2 -4 -2")
	a.sideIs(t, 2, nil, "+0 -0 +3 -3 |  | +2 -2 +4 -4")
	// the first stage takes four of them, also where there is but one move
	a.sideIs(t, 2, []int{0, 0, 0, 0, 1, 1, 1}, "+0 -0 +3 -3 |  | +4 +2 -4 -2")
	a.sideIs(t, 2, []int{1, 1, 1, 1, 0, 0, 0}, "+3 +0 -3 -0 |  | +2 -2 +4 -4")
	a.sideIs(t, 2, []int{1, 1, 1, 7, 0, 1, 1}, "+3 +0 -3 -0 |  | +2 +4 -4 -2")
	// they end in the first stage, just behind it, and in the last one
	a.sideIs(t, 2, ones[:1], "+3 -3 +0 -0 |  | +2 -2 +4 -4")
	a.sideIs(t, 2, ones[:2], "+3 +0 -0 -3 |  | +2 -2 +4 -4")
	a.sideIs(t, 2, ones[:3], "+3 +0 -3 -0 |  | +2 -2 +4 -4")
	a.sideIs(t, 2, ones[:4], "+3 +0 -3 -0 |  | +2 -2 +4 -4")
	a.sideIs(t, 2, ones[:5], "+3 +0 -3 -0 |  | +4 -4 +2 -2")
	a.sideIs(t, 2, ones[:6], "+3 +0 -3 -0 |  | +4 +2 -2 -4")
	a.in(t, [][]int{{3, 0}, {1}, {4, 2}})
	a.in(t, [][]int{{0, 3}, {1}, {2, 4}})
	a.inRefused(t, "the idle stage is left out", [][]int{{3, 0}, {4, 2}})
	a.inRefused(t, "the idle stage is empty", [][]int{{3, 0}, {}, {4, 2}})

	// the first stage is idle, and the last one; nobody runs at all
	s = staged("a>b b>c", "a when=Over: spawn();", "b: spawn(); emit Hit 1;", "c in=5: $Score = 1;")
	a = playOf(t, s, newGame(t, s), 1, 100)
	a.sideIs(t, 3, []int{5}, " | +1 -1 | ")
	a.in(t, [][]int{{0}, {1}, {2}})
	s = staged("a>b b>c", "a when=Over: spawn();", "b every=100: spawn();", "c in=5: $Score = 1;")
	a = playOf(t, s, newGame(t, s), 1, 100)
	if len(a.one.Codes) != 3 {
		t.Error(a.one.Codes)
	}
	for _, picks := range [][]int{nil, {1}, ones} {
		a.sideIs(t, 1, picks, " |  | ")
		a.sideIs(t, impl.MaxWorkers, picks, " |  | ")
	}
	a.in(t, [][]int{{0}, {1}, {2}})
	a.inRefused(t, "those that do not run are left out", [][]int{{}, {}, {}})
}

// Picks below 0 and at the ends of the whole numbers.
func TestSidesByPicksOfAnySize(t *testing.T) {
	s := staged("", "a: $Score = 1;", "b: $Wind = 1.0;", "c: $Over = yes;")
	a := playOf(t, s, newGame(t, s), 1, 100)
	for _, c := range []struct {
		picks []int
		moves string
	}{
		{[]int{-1, -1, -1, -1, -1, -1}, "+2 +1 +0 -2 -1 -0"},
		{[]int{-3, -3, -3, -3, -3, -3}, "+0 -0 +2 +1 -2 -1"},
		{[]int{-2, -2, -2, -2, -2, -2}, "+1 +0 -1 -0 +2 -2"},
		// the least number by 3 is left 1, the greatest one 1; by 2 they are 0, 1
		{[]int{leastInt, leastInt, leastInt, leastInt}, "+1 +0 -1 -0 +2 -2"},
		{[]int{mostInt, mostInt, mostInt, mostInt}, "+1 +0 -1 +2 -0 -2"},
		{[]int{leastInt + 1, leastInt + 1}, "+2 +1 -1 -2 +0 -0"},
		{[]int{1 << 32, 1 << 33, -1 << 32}, "+1 +2 +0 -0 -1 -2"},
	} {
		a.sideIs(t, 3, c.picks, c.moves)
	}
	for _, first := range []struct {
		pick int
		task string
	}{{leastInt, "+1"}, {leastInt + 1, "+2"}, {mostInt, "+1"}, {mostInt - 1, "+0"}, {-1, "+2"}, {-4, "+2"}, {-1 << 32, "+2"}, {1 << 32, "+1"}, {3, "+0"}} {
		moves := stagesText(a.side(t, 3, []int{first.pick}))
		if !strings.HasPrefix(moves, first.task+" ") {
			t.Errorf("pick %d: %q, not %s first", first.pick, moves, first.task)
		}
	}
}

func TestWorkersOfSides(t *testing.T) {
	s := idleStage()
	a := playOf(t, s, newGame(t, s), 1, 100)
	none := staged("", "a when=Over: $Score = 1;")
	bare := impl.Sched{Reg: checkReg()}
	for workers := 1; workers <= impl.MaxWorkers; workers++ {
		a.side(t, workers, []int{1, 2, 3})
	}
	for _, workers := range []int{0, -1, -2, leastInt, impl.MaxWorkers + 1, impl.MaxWorkers + 2, 1 << 32, 1<<32 + 1, 257, mostInt} {
		frameSideRefused(t, "workers", s, a.g, 1, 100, workers, nil, impl.SchMany, 2)
		frameSideRefused(t, "workers, picks", s, a.g, 1, 100, workers, []int{1, 2, 3}, impl.SchMany, 2)
		frameSideRefused(t, "workers, too many picks", s, a.g, 1, 100, workers, make([]int, impl.MaxPicks+1), impl.SchMany, 2)
		frameSideRefused(t, "workers, nobody runs", none, newGame(t, none), 1, 100, workers, nil, impl.SchMany, 2)
		frameSideRefused(t, "workers, no systems", bare, newGame(t, bare), 1, 100, workers, nil, impl.SchMany, 2)
	}
}

func TestPicksOfSides(t *testing.T) {
	s := idleStage()
	a := playOf(t, s, newGame(t, s), 1, 100)
	bare := impl.Sched{Reg: checkReg()}
	for _, workers := range []int{1, 2, impl.MaxWorkers} {
		for _, most := range []int{impl.MaxPicks - 1, impl.MaxPicks} {
			a.side(t, workers, make([]int, most))
			a.side(t, workers, slices.Repeat([]int{-1}, most))
			playOf(t, bare, newGame(t, bare), 1, 100).side(t, workers, make([]int, most))
		}
		for _, more := range []int{impl.MaxPicks + 1, impl.MaxPicks + 2, 10 * impl.MaxPicks} {
			frameSideRefused(t, "picks", s, a.g, 1, 100, workers, make([]int, more), impl.SchMany, 2)
			frameSideRefused(t, "picks, no systems", bare, newGame(t, bare), 1, 100, workers, make([]int, more), impl.SchMany, 2)
		}
	}
	// room behind the picks is none of them
	a.side(t, 2, make([]int, 3, 5*impl.MaxPicks))
}

// Faults of systems that ran in another order than the plan's: Troubles stand in
// the plan's Order, each with its own steps.
func TestTroublesOfSides(t *testing.T) {
	s := staged("d>c",
		"a: spawn(Hp = 1); let q = 1 / 0;",
		"b: loop 3 { let r = 1; } $Wind = 1.0; let q = 1 / 0;",
		"c: $Score = 5; loop 9000 { }",
		"d: $Score = 4; loop 70 { spawn(); }",
		"e: emit Hit 1; let q = 5 % 0;",
		"f: each with Hp { put Mp = 7; }")
	planIs(t, s, "0 0 1 0 0 0 | 0 1 3 4 5 2 | ")
	a := playOf(t, s, gameOf(s, runState()), 1, 150)
	if fmt.Sprint(a.one.Troubles) != "[{0 2 2} {1 2 9} {3 4 123} {4 2 2} {2 3 150}]" || fmt.Sprint(a.one.Codes) != "[[[] [] [] [] [0 0 0 0]] [[]]]" {
		t.Error(frameText(a.one))
	}
	a.sideIs(t, 5, slices.Repeat([]int{-1}, 12), "+5 +4 +3 +1 +0 -5 -4 -3 -1 -0 | +2 -2")
	a.sideIs(t, 1, []int{4, 0, 3, 0, 2, 0, 1, 0, 0, 0}, "+5 -5 +4 -4 +3 -3 +1 -1 +0 -0 | +2 -2")
	a.in(t, [][]int{{5, 4, 3, 1, 0}, {2}})
	a.in(t, [][]int{{4, 0, 5, 3, 1}, {2}})
	d := dice(227)
	for range 30 {
		a.side(t, 1+d.roll(impl.MaxWorkers), anyPicks(&d, 14))
		a.in(t, a.anyOrders(&d))
	}
}

// Commands of systems that ended in another order: things are made, and codes
// told, in the plan's Order.
func TestCommandsOfSides(t *testing.T) {
	s := staged("", "a: spawn(Hp = 1); spawn(Hp = 2);", "b: each with Hp { kill; }", "c: spawn(Mp = 3);", "d: each with Hp { put Heat = 1.5; drop Hp; drop Up; }", "e when=Over: spawn();", "f: spawn(Hp = 6);")
	a := playOf(t, s, gameOf(s, runState()), 0, 100)
	if fmt.Sprint(a.one.Codes) != "[[[0 0] [0 0 0 0] [0] [2 2 2 2 2 2 2 2 2 2 2 2] [0]]]" {
		t.Error(a.one.Codes)
	}
	// the last place that is free is taken first: by the first system of the Order
	if hp, ok := impl.Get(s.Reg, a.one.Game.World, ent(2, 7), 0); !ok || hp != whole(1) {
		t.Error("the first thing made", hp, ok)
	}
	a.sideIs(t, impl.MaxWorkers, slices.Repeat([]int{-1}, 10), "+5 +3 +2 +1 +0 -5 -3 -2 -1 -0")
	a.sideIs(t, 1, []int{4, 0, 3, 0, 2, 0, 1, 0, 0, 0}, "+5 -5 +3 -3 +2 -2 +1 -1 +0 -0")
	if count := a.inAll(t, 0); count != 720 {
		t.Error("right orders:", count)
	}
}

// Orders that are none: each for one reason.
func TestWrongOrders(t *testing.T) {
	s := staged("a>b c>d d>e", "a: spawn(Hp = 1);", "b: $Score = 1;", "c: $Wind = 1.0;", "d: $Over = yes;", "e: $Home = pair(1.0, 1.0);", "f when=Over: let q = $Wind;", "g: $Score = $Score + 1;")
	planIs(t, s, "0 1 0 0 0 0 0 | 0 2 3 4 5 6 1 | 2>3 2>5 3>4")
	a := playOf(t, s, newGame(t, s), 1, 100)
	right := [][]int{{0, 2, 3, 4, 5, 6}, {1}}
	a.in(t, right)
	a.in(t, [][]int{{6, 2, 5, 3, 0, 4}, {1}})
	for what, orders := range map[string][][]int{
		"nothing":                     nil,
		"a list too few":              right[:1],
		"a list too few, the first":   right[1:],
		"a list too many":             append(slices.Clone(right), nil),
		"one ahead":                   append([][]int{nil}, right...),
		"all in one":                  {{0, 2, 3, 4, 5, 6, 1}},
		"all in the first":            {{0, 2, 3, 4, 5, 6, 1}, {}},
		"lists turned about":          {{1}, {0, 2, 3, 4, 5, 6}},
		"the last one lacks":          {{0, 2, 3, 4, 5}, {1}},
		"the first one lacks":         {{2, 3, 4, 5, 6}, {1}},
		"one that does not run lacks": {{0, 2, 3, 4, 6}, {1}},
		"the second stage lacks":      {{0, 2, 3, 4, 5, 6}, {}},
		"one twice":                   {{0, 2, 3, 4, 5, 6, 6}, {1}},
		"one twice, and one lacks":    {{0, 2, 3, 4, 5, 5}, {1}},
		"the first one twice":         {{0, 0, 2, 3, 4, 5, 6}, {1}},
		"one twice in two stages":     {{0, 2, 3, 4, 5, 6}, {1, 6}},
		"the only one twice":          {{0, 2, 3, 4, 5, 6}, {1, 1}},
		"one of another stage":        {{0, 2, 3, 4, 5, 1}, {6}},
		"one too late":                {{0, 2, 3, 4, 5}, {6, 1}},
		"one too early":               {{1, 0, 2, 3, 4, 5, 6}, {}},
		"below 0":                     {{0, 2, 3, 4, 5, -1}, {1}},
		"one below 0 more":            {{0, 2, 3, 4, 5, 6, -1}, {1}},
		"nobody's number":             {{0, 2, 3, 4, 5, 7}, {1}},
		"one of nobody more":          {{0, 2, 3, 4, 5, 6, 7}, {1}},
		"far off":                     {{0, 2, 3, 4, 5, mostInt}, {leastInt}},
		"far too many":                {slices.Repeat([]int{0, 2, 3, 4, 5, 6}, 1000), {1}},
		"d ahead of c":                {{0, 3, 2, 4, 5, 6}, {1}},
		"e ahead of d":                {{0, 2, 4, 3, 5, 6}, {1}},
		"e ahead of c":                {{4, 0, 2, 3, 5, 6}, {1}},
		"who does not run ahead of c": {{5, 0, 2, 3, 4, 6}, {1}},
		"all turned about":            {{6, 5, 4, 3, 2, 0}, {1}},
	} {
		a.inRefused(t, what, orders)
	}
	huge := make([]int, 1<<24)
	for _, orders := range [][][]int{{huge, huge}, {right[0], huge}, slices.Repeat([][]int{huge}, 16), make([][]int, 1<<20)} {
		frameInRefused(t, "huge", s, a.g, 1, 100, orders, impl.SchMany, 3)
	}
}

// Those that do not run may stand elsewhere, where the plan's Edges leave them.
func TestOrdersOfThoseThatDoNotRun(t *testing.T) {
	s := staged("", "a: $Score = $Score + 1;", "b when=Over: $Wind = 1.0;", "c: let q = $Score;", "d when=Over: let q = $Wind; $Home = pair(1.0, 1.0);", "e: spawn(Hp = $Score);")
	planIs(t, s, "0 0 0 0 0 | 0 1 2 3 4 | 0>2 0>4 1>3")
	a := playOf(t, s, newGame(t, s), 1, 100)
	for _, order := range [][]int{{0, 1, 2, 3, 4}, {1, 3, 0, 2, 4}, {0, 2, 4, 1, 3}, {1, 0, 4, 2, 3}, {0, 1, 4, 3, 2}} {
		a.in(t, [][]int{order})
	}
	// also those that do not run wait for each other, and are all there
	for _, order := range [][]int{{0, 3, 2, 1, 4}, {3, 1, 0, 2, 4}, {0, 2, 4}, {0, 2, 4, 1}, {0, 2, 4, 3}} {
		a.inRefused(t, "those that do not run", [][]int{order})
	}
	if count := a.inAll(t, 0); count != 20 {
		t.Error("right orders:", count)
	}
}

// Fuel that ends on the way, for each of those that run side by side.
func TestFuelOfSides(t *testing.T) {
	s := staged("", "a: loop 3 { $Score = $Score + 1; }", "b: $Wind = 1.0; $Wind = 2.0;", "c: spawn(); emit Hit 1;", "d: hear Hit as h { $Over = yes; }")
	d := dice(228)
	for fuel := range 12 {
		a := playOf(t, s, gameOf(s, runState()), 0, fuel)
		a.manySides(t, &d)
		a.inAll(t, 0)
	}
	for _, fuel := range []int{impl.MaxSteps, impl.MaxFuel} {
		playOf(t, s, gameOf(s, runState()), impl.MaxTick, fuel).manySides(t, &d)
	}
}

// Values that no number tells apart go through as they are.
func TestSidesOfStrangeFloats(t *testing.T) {
	s := staged("", "a: $Wind = -$Wind;", "b: each with Mass { .Mass = -.Mass; }", "c: each with Heat { .Heat = .Heat / 0.0; }", "d: emit Burn -0.0;", "e: each with Pos { .Pos = .Pos + .Pos; }")
	g := gameOf(s, runState())
	g.World.Res[1] = float(0)
	d := dice(229)
	for range 3 {
		w, _, code := impl.Spawn(s.Reg, g.World, []impl.Cell{cell(1, float(0)), cell(5, float(0)), cell(2, pair(negZero, nan))})
		if code != impl.WDone {
			t.Fatal("code", code)
		}
		g.World = w
		a := playOf(t, s, g, 1, 100)
		a.inAll(t, 0)
		a.manySides(t, &d)
		g = a.one.Game
	}
	if !same(g.World.Res[1], float(negZero)) || !same(g.Streams[1].Old[0], float(negZero)) {
		t.Error(gameText(g))
	}
}
