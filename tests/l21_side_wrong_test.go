package tests

import (
	"testing"

	"loop.example/g00070/impl"
)

// sideRefusals asks for FrameOne's code and number of both functions, whatever
// the workers, the picks and the orders.
func sideRefusals(t *testing.T, what string, s impl.Sched, g impl.Game, tick, fuel, code, at int) {
	t.Helper()
	frameRefused(t, what, s, g, tick, fuel, code, at)
	for _, workers := range []int{leastInt, 0, 1, 2, impl.MaxWorkers, impl.MaxWorkers + 1} {
		frameSideRefused(t, what, s, g, tick, fuel, workers, []int{1, 2, 3}, code, at)
		frameSideRefused(t, what, s, g, tick, fuel, workers, make([]int, impl.MaxPicks+1), code, at)
	}
	for _, orders := range [][][]int{nil, {{0}}, {{0, 1, 2}}, {{2, 1, 0}, {7}}, make([][]int, 50)} {
		frameInRefused(t, what, s, g, tick, fuel, orders, code, at)
	}
}

func TestSidesOfWrongSchedules(t *testing.T) {
	right := gatedShow()
	g := gameOf(right, runState())
	playOf(t, right, g, 10, 50).sideIs(t, 2, nil, "+0 -0 +2 -2")
	for _, c := range wrongTurns() {
		s := turnedBy(right, c.turn)
		sideRefusals(t, "a wrong schedule", s, g, 10, 50, c.code, c.at)
		sideRefusals(t, "a wrong schedule and no game", s, impl.Game{}, -1, impl.MaxFuel+1, c.code, c.at)
	}
}

// What MakePlan alone refuses: its code and number, ahead of the workers and the
// orders, also where the game is wrong, too.
func TestSidesWithoutAPlan(t *testing.T) {
	for _, c := range []struct {
		s        impl.Sched
		code, at int
	}{
		{staged("c>b b>c", "a: $Score = 1;", "b:", "c:"), impl.SchCircle, 1},
		{strictly(staged("", "a:", "b: $Score = 1;", "c: let q = $Score;")), impl.SchClash, 1},
		{schedOf(inSets(15, "One")+" p", "One>One"), impl.SchRule, 0},
	} {
		planRefused(t, "no plan", c.s, c.code, c.at)
		g := gameOf(c.s, runState())
		for _, q := range []impl.Game{g, {}, gameBy(g, func(g *impl.Game) { g.Clocks.Acc = nil })} {
			sideRefusals(t, "no plan", c.s, q, 0, 50, c.code, c.at)
			sideRefusals(t, "no plan", c.s, q, impl.MaxTick+1, -1, c.code, c.at)
		}
	}
}

func TestSidesOfWrongGames(t *testing.T) {
	s := staged("", "a: $Score = 1;", "b: spawn();", "c: hear Hit as h { }")
	g := gameOf(s, runState())
	playOf(t, s, g, 1, 50).sideIs(t, 2, nil, "+0 -0 +1 -1 +2 -2")
	for what, turn := range map[string]func(g *impl.Game){
		"nothing":                    func(g *impl.Game) { *g = impl.Game{} },
		"a list of cursors too few":  func(g *impl.Game) { g.Cursors = g.Cursors[:2] },
		"a list of cursors too many": func(g *impl.Game) { g.Cursors = append(g.Cursors, []int{0, 0, 0, 0}) },
		"a cursor too few":           func(g *impl.Game) { g.Cursors[1] = g.Cursors[1][:3] },
		"an Acc too many":            func(g *impl.Game) { g.Clocks.Acc = append(g.Clocks.Acc, 0) },
		"an Acc above the most":      func(g *impl.Game) { g.Clocks.Acc[2] = 4000001 },
		"a wrong resource":           func(g *impl.Game) { g.World.Res[0] = yesNo(true) },
		"a wrong event":              func(g *impl.Game) { g.Streams[0].Old[0] = float(1) },
		"a thing that is not live":   func(g *impl.Game) { g.World.Tables[0].Rows[0] = ent(0, 5) },
	} {
		sideRefusals(t, what, s, gameBy(g, turn), 1, 50, impl.SchMany, 1)
	}
	for _, tick := range []int{-1, leastInt, impl.MaxTick + 1, mostInt} {
		sideRefusals(t, "a tick", s, g, tick, 50, impl.SchMany, 1)
		sideRefusals(t, "a tick, no systems", impl.Sched{}, impl.Game{}, tick, 50, impl.SchMany, 1)
	}
	for _, fuel := range wrongFuels {
		sideRefusals(t, "a fuel", s, g, 1, fuel, impl.SchMany, 1)
		sideRefusals(t, "a fuel, no systems", impl.Sched{}, impl.Game{}, 1, fuel, impl.SchMany, 1)
	}
	for i, c := range wrongStates() {
		if impl.RegOk(c.r) && i%4 == 0 {
			q := impl.Sched{Reg: c.r, Text: "system a { }", Systems: []impl.Sys{{Name: "a"}}}
			if wrong := gameOf(q, c.s); !impl.GameOk(q, wrong) {
				sideRefusals(t, c.what, q, wrong, 1, 50, impl.SchMany, 1)
			}
		}
	}
}

// A game of another schedule is none of this one's.
func TestSidesOfAnotherSchedulesGame(t *testing.T) {
	all := []impl.Sched{
		staged("", "a: $Score = 1;", "b: $Score = 2;"),
		staged("", "a: $Score = 1;", "b: $Score = 2;", "c: $Score = 3;"),
		{Reg: checkReg()},
		{Reg: worldReg(), Text: "system a { } system b { }", Systems: []impl.Sys{{Name: "a"}, {Name: "b"}}},
	}
	for i, s := range all {
		for j, q := range all {
			if g := newGame(t, q); i != j {
				sideRefusals(t, "another schedule's game", s, g, 0, 50, impl.SchMany, 1)
			} else {
				a := playOf(t, s, g, 0, 50)
				a.side(t, 2, []int{1, 1, 1})
				a.in(t, a.stages())
			}
		}
	}
}

// All at once: the game is handed back, whatever it is.
func TestSidesOfAllWrong(t *testing.T) {
	strange := strangeGame()
	for _, g := range []impl.Game{{}, strange, {Cursors: make([][]int, 1000)}, {World: crowd(impl.MaxEnts + 1)}} {
		for _, s := range []impl.Sched{{Text: "}"}, {Reg: wrongRegs()[0]}, staged("", "a:"), staged("", "a: kill;"), {Systems: make([]impl.Sys, 17)}} {
			code, at := plainRefusal(s)
			if code == impl.SchDone {
				code, at = impl.SchMany, 1
			}
			for _, n := range []int{leastInt, 0, mostInt} {
				sideRefusals(t, "all wrong", s, g, n, n, code, at)
				noStray(t, "all wrong", s, g, strange, n)
			}
		}
	}
}

// The order of the reasons: the plan, the game, the tick and the fuel, then the
// workers and picks, or the orders.
func TestSidesOfSeveralReasons(t *testing.T) {
	s := staged("", "a: $Score = 1;", "b: $Wind = 1.0;")
	circle := staged("a>b b>a", "a: $Score = 1;", "b: $Wind = 1.0;")
	g := gameOf(s, runState())
	frameSideRefused(t, "a circle and no workers", circle, g, 0, 50, 0, nil, impl.SchCircle, 0)
	frameInRefused(t, "a circle and no orders", circle, g, 0, 50, nil, impl.SchCircle, 0)
	frameSideRefused(t, "a tick and no workers", s, g, -1, 50, 0, nil, impl.SchMany, 1)
	frameInRefused(t, "a tick and no orders", s, g, -1, 50, nil, impl.SchMany, 1)
	frameSideRefused(t, "no workers", s, g, 0, 50, 0, nil, impl.SchMany, 2)
	frameSideRefused(t, "too many picks", s, g, 0, 50, 1, make([]int, impl.MaxPicks+1), impl.SchMany, 2)
	frameInRefused(t, "no orders", s, g, 0, 50, nil, impl.SchMany, 3)
	playOf(t, s, g, 0, 50).in(t, [][]int{{1, 0}})
}
