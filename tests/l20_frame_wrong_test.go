package tests

import (
	"slices"
	"testing"

	"loop.example/g00070/impl"
)

// schedRefusedFor asks for a schedule that is not right, for each function: no
// new game, no right game, and a frame with the code and number.
func schedRefusedFor(t *testing.T, what string, s impl.Sched, g impl.Game, code, at int) {
	t.Helper()
	if q, ok := impl.NewGame(s); ok || !sameGame(q, impl.Game{}) {
		t.Errorf("%s: NewGame %v\n%s", what, ok, gameText(q))
	}
	if impl.GameOk(s, g) || impl.GameOk(s, impl.Game{}) {
		t.Errorf("%s: GameOk", what)
	}
	for _, n := range []int{-1, 0, 1, impl.MaxTimes, impl.MaxTimes + 1} {
		taskRefused(t, what, s, g, 0, n, 50)
		taskRefused(t, what, s, g, n, 1, 50)
		taskRefused(t, what, s, g, 0, 1, n)
	}
	// whatever else is wrong: the schedule counts first
	for _, tick := range []int{-1, 0, impl.MaxTick + 1} {
		for _, fuel := range []int{-1, 50, impl.MaxFuel + 1} {
			frameRefused(t, what, s, g, tick, fuel, code, at)
			frameRefused(t, what, s, impl.Game{}, tick, fuel, code, at)
			frameRefused(t, what, s, gameBy(g, func(g *impl.Game) { g.Cursors = append(g.Cursors, []int{1, 2}) }), tick, fuel, code, at)
		}
	}
}

// gatedShow is a right schedule with a set, a rule and gates.
func gatedShow() impl.Sched {
	s := staged("One>b", "a every=10: $Score = 1;", "b when=Over,in=2: spawn(Hp = 1);", "c:")
	s.Systems[0].Sets = []string{"One"}
	return s
}

// wrongTurn makes gatedShow wrong, for a code and its number.
type wrongTurn struct {
	code, at int
	turn     func(s *impl.Sched)
}

func wrongTurns() []wrongTurn {
	return []wrongTurn{
		{impl.SchReg, 0, func(s *impl.Sched) { s.Reg.Evts[0].Name = "Hp" }},
		{impl.SchText, 19, func(s *impl.Sched) { s.Text = "system a { } system" }},
		{impl.SchText, 0, func(s *impl.Sched) { s.Text = "?" + s.Text }},
		{impl.SchCheck, 0, func(s *impl.Sched) { s.Text = "system a { kill; }" }},
		{impl.SchMany, 0, func(s *impl.Sched) { s.Rules = slices.Repeat(s.Rules, impl.MaxRules+1) }},
		{impl.SchMany, 0, func(s *impl.Sched) { s.Systems = slices.Repeat(s.Systems, 6) }},
		{impl.SchSystem, 2, func(s *impl.Sched) { s.Systems[2].Name = "a" }},
		{impl.SchSystem, 0, func(s *impl.Sched) { s.Systems[0].Name = "nobody" }},
		{impl.SchSet, 1, func(s *impl.Sched) { s.Systems[1].Sets = []string{"c"} }},
		{impl.SchGate, 1, func(s *impl.Sched) { s.Systems[1].When = "Score" }},
		{impl.SchGate, 0, func(s *impl.Sched) { s.Systems[0].Every = impl.MaxEvery + 1 }},
		{impl.SchRule, 0, func(s *impl.Sched) { s.Rules[0].After = "nobody" }},
	}
}

// strangeGame is wrong in all that it has.
func strangeGame() impl.Game {
	return impl.Game{
		World:   impl.World{Ents: impl.Ents{Gens: []int{-5}, Free: []int{7, 7}}, Tables: []impl.Table{{Cols: []int{3, 1}, Rows: []impl.Ent{{At: 9, Gen: -9}}, Cells: [][]impl.Val{nil, {{Kind: 77}}, {whole(1)}}}, {}}, Res: []impl.Val{{}, {Kind: -1, I: 2, X: nan, Y: inf}}},
		Streams: []impl.Stream{{First: -8, Old: make([]impl.Val, 300)}, {New: []impl.Val{float(negZero)}}, {}},
		Cursors: [][]int{nil, {1}, {1, 2, 3, 4, 5, 6}},
		Clocks:  impl.Clocks{Acc: []int{-1, mostInt}, Phase: leastInt, Begun: true},
	}
}

func TestFramesOfWrongSchedules(t *testing.T) {
	right := gatedShow()
	g := gameOf(right, runState())
	frameDone(t, right, g, 10, 50)
	for _, c := range wrongTurns() {
		s := turnedBy(right, c.turn)
		if code, at := impl.SchedOk(s); code != c.code || at != c.at {
			t.Error("SchedOk", code, at, "not", c.code, c.at)
		}
		schedRefusedFor(t, "a wrong schedule", s, g, c.code, c.at)
	}
	for i, r := range wrongRegs() {
		if i%4 == 0 {
			schedRefusedFor(t, "a wrong Reg", turnedBy(right, func(s *impl.Sched) { s.Reg = r }), g, impl.SchReg, 0)
		}
	}
}

// What MakePlan alone refuses: its code and number, ahead of all else; the game
// is right all the same.
func TestFramesWithoutAPlan(t *testing.T) {
	circle := staged("c>b b>c", "a: $Score = 1;", "b:", "c:")
	clash := strictly(staged("", "a:", "b: $Score = 1;", "c: let q = $Score;"))
	many := schedOf(inSets(15, "One")+" p", "One>One")
	for _, c := range []struct {
		s        impl.Sched
		code, at int
	}{{circle, impl.SchCircle, 1}, {clash, impl.SchClash, 1}, {many, impl.SchRule, 0}} {
		planRefused(t, "no plan", c.s, c.code, c.at)
		g := gameOf(c.s, runState())
		if !impl.GameOk(c.s, g) {
			t.Error("GameOk", gameText(g))
		}
		for _, q := range []impl.Game{g, {}, gameBy(g, func(g *impl.Game) { g.Clocks.Acc = nil })} {
			for _, tick := range []int{-1, 0, impl.MaxTick + 1} {
				for _, fuel := range []int{-1, 50, impl.MaxFuel + 1} {
					frameRefused(t, "no plan", c.s, q, tick, fuel, c.code, c.at)
				}
			}
		}
	}
}

// Worlds, streams and cursors that are wrong, each for one reason, of a schedule
// with a system and of one without any.
func TestFramesOfWrongStates(t *testing.T) {
	for i, c := range wrongStates() {
		s := impl.Sched{Reg: c.r, Text: "system a { }", Systems: []impl.Sys{{Name: "a"}}}
		none := impl.Sched{Reg: c.r}
		g := gameOf(s, c.s)
		bare := gameOf(none, c.s)
		if !impl.RegOk(c.r) {
			if i%3 == 0 {
				schedRefusedFor(t, c.what, s, g, impl.SchReg, 0)
				schedRefusedFor(t, c.what, none, bare, impl.SchReg, 0)
			}
			continue
		}
		gameRefused(t, c.what, s, g)
		if right := (impl.State{World: c.s.World, Streams: c.s.Streams, Cursors: make([]int, len(c.r.Evts))}); impl.StateOk(c.r, right) {
			// it is the cursors that are wrong, and there is nobody who has any
			frameDone(t, none, bare, 0, 50)
		} else {
			gameRefused(t, c.what+", no system", none, bare)
		}
	}
}

func TestFramesOfWrongClocks(t *testing.T) {
	s := staged("", "a every=5: $Score = 1;", "b: spawn();")
	g := gameOf(s, runState())
	for what, acc := range map[string][]int{
		"no Acc": nil, "one too few": {0}, "one too many": {0, 0, 0}, "below 0": {0, -1}, "far below 0": {leastInt, 0}, "above the most": {4000001, 0}, "far above the most": {0, mostInt},
	} {
		for _, begun := range []bool{false, true} {
			gameRefused(t, what, s, gameBy(g, func(g *impl.Game) { g.Clocks = impl.Clocks{Acc: acc, Phase: 3, Begun: begun} }))
		}
	}
	none := impl.Sched{Reg: checkReg()}
	gameRefused(t, "an Acc of nobody", none, gameBy(gameOf(none, runState()), func(g *impl.Game) { g.Clocks.Acc = []int{0} }))
}

// A game is right by its own schedule alone.
func TestGamesOfAnotherSchedule(t *testing.T) {
	two := staged("", "a: $Score = 1;", "b: $Score = 2;")
	three := staged("", "a: $Score = 1;", "b: $Score = 2;", "c: $Score = 3;")
	none := impl.Sched{Reg: checkReg()}
	other := impl.Sched{Reg: worldReg(), Text: "system a { } system b { }", Systems: []impl.Sys{{Name: "a"}, {Name: "b"}}}
	all := []impl.Sched{two, three, none, other, {}}
	for i, s := range all {
		for j, q := range all {
			g := newGame(t, q)
			if i != j {
				gameRefused(t, "another schedule's game", s, g)
			} else {
				frameDone(t, s, g, 0, 50)
			}
		}
	}
	// names and gates may be others: they are not in the game
	named := staged("", "x every=7: $Wind = 1.0;", "y in=3: spawn();")
	frameDone(t, named, gameOf(two, runState()), 3, 50)
}

// All at once: the game is handed back, whatever it is.
func TestFramesOfAllWrong(t *testing.T) {
	strange := strangeGame()
	for _, g := range []impl.Game{{}, strange, {Cursors: make([][]int, 1000)}, {Streams: make([]impl.Stream, 1000)}, {Clocks: behind(5, make([]int, 1000)...)}, {World: crowd(impl.MaxEnts + 1)}} {
		for _, s := range []impl.Sched{{Text: "}"}, {Reg: wrongRegs()[0]}, staged("", "a:"), staged("", "a: kill;"), {Systems: make([]impl.Sys, 17)}} {
			code, at := plainRefusal(s)
			if code == impl.SchDone {
				gameRefused(t, "all wrong", s, g)
				code, at = impl.SchMany, 1
			}
			for _, n := range []int{leastInt, -1, 0, 1, impl.MaxTick + 1, mostInt} {
				for _, fuel := range []int{leastInt, 0, mostInt} {
					taskRefused(t, "all wrong", s, g, n, n, fuel)
					frameRefused(t, "all wrong", s, g, n, fuel, code, at)
				}
			}
		}
	}
}
