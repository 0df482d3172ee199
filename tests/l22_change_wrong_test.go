package tests

import (
	"testing"

	"loop.example/g00070/impl"
)

// wrongGames turns a right game of three systems by checkReg, each for one
// reason.
func wrongGames() map[string]func(g *impl.Game) {
	return map[string]func(g *impl.Game){
		"nothing":                    func(g *impl.Game) { *g = impl.Game{} },
		"strange":                    func(g *impl.Game) { *g = strangeGame() },
		"a list of cursors too few":  func(g *impl.Game) { g.Cursors = g.Cursors[:2] },
		"no cursors":                 func(g *impl.Game) { g.Cursors = nil },
		"a list of cursors too many": func(g *impl.Game) { g.Cursors = append(g.Cursors, []int{0, 0, 0, 0}) },
		"a cursor too few":           func(g *impl.Game) { g.Cursors[1] = g.Cursors[1][:3] },
		"a cursor too many":          func(g *impl.Game) { g.Cursors[2] = append(g.Cursors[2], 0) },
		"an Acc too few":             func(g *impl.Game) { g.Clocks.Acc = g.Clocks.Acc[:2] },
		"an Acc too many":            func(g *impl.Game) { g.Clocks.Acc = append(g.Clocks.Acc, 0) },
		"an Acc below 0":             func(g *impl.Game) { g.Clocks.Acc[0] = -1 },
		"an Acc above the most":      func(g *impl.Game) { g.Clocks.Acc[2] = 4000001 },
		"a resource too few":         func(g *impl.Game) { g.World.Res = g.World.Res[:3] },
		"a wrong resource":           func(g *impl.Game) { g.World.Res[0] = yesNo(true) },
		"a value that is none":       func(g *impl.Game) { g.World.Res[3].I = 2 },
		"a stream too few":           func(g *impl.Game) { g.Streams = g.Streams[:3] },
		"a stream too many":          func(g *impl.Game) { g.Streams = append(g.Streams, impl.Stream{}) },
		"a wrong event":              func(g *impl.Game) { g.Streams[0].Old[0] = float(1) },
		"a First below 0":            func(g *impl.Game) { g.Streams[1].First = -1 },
		"a First above the most":     func(g *impl.Game) { g.Streams[1].First = impl.MaxFirst + 1 },
		"too many events":            func(g *impl.Game) { g.Streams[0] = countedFrom(0, 0, impl.MaxEvents+1) },
		"a thing that is not live":   func(g *impl.Game) { g.World.Tables[0].Rows[0] = ent(0, 5) },
		"a thing that stands twice":  func(g *impl.Game) { g.World.Tables[0].Rows[0] = ent(3, 1) },
		"a place free twice":         func(g *impl.Game) { g.World.Ents.Free = []int{2, 2} },
		"too many things":            func(g *impl.Game) { g.World.Ents = crowd(impl.MaxEnts + 1).Ents },
	}
}

// A game that is not right by the old schedule is handed back, to any next one:
// itself, another one, and one that is wrong, too.
func TestChangeOfWrongGames(t *testing.T) {
	old, g := watched()
	nexts := []impl.Sched{old, staged("", "b:", "d:"), {Reg: checkReg()}, {Reg: worldReg()}, {}, staged("", "a: kill;")}
	for what, turn := range wrongGames() {
		wrong := gameBy(g, turn)
		for _, next := range nexts {
			changeRefused(t, what, old, next, wrong)
		}
		if !impl.GameOk(old, g) {
			t.Fatal("not right:", what)
		}
	}
	for i, c := range wrongStates() {
		s := impl.Sched{Reg: c.r, Text: "system a { }", Systems: []impl.Sys{{Name: "a"}}}
		if wrong := gameOf(s, c.s); i%3 == 0 && !impl.GameOk(s, wrong) {
			changeRefused(t, c.what, s, s, wrong)
			changeRefused(t, c.what, s, impl.Sched{Reg: c.r}, wrong)
		}
	}
}

// It is the old schedule that a game must be right by, not the next one.
func TestChangeOfAnotherSchedulesGame(t *testing.T) {
	two, three, none := staged("", "a:", "b:"), staged("", "a:", "b:", "c:"), impl.Sched{Reg: checkReg()}
	for _, old := range []impl.Sched{two, three, none} {
		for _, next := range []impl.Sched{two, three, none} {
			for _, whose := range []impl.Sched{two, three, none} {
				g := gameOf(whose, runState())
				if len(whose.Systems) == len(old.Systems) {
					changed(t, old, next, g)
				} else {
					changeRefused(t, "another schedule's game", old, next, g)
				}
			}
		}
	}
	other := emptied(worldReg())
	changeRefused(t, "another Reg's game", two, other, newGame(t, other))
	changeRefused(t, "another Reg's game, back", other, two, newGame(t, two))
}

// Each code of SchedOk, of the old schedule, of the next one and of both.
func TestChangeOfWrongSchedules(t *testing.T) {
	right := gatedShow()
	g := gameOf(right, runState())
	codes := map[int]int{}
	for _, c := range wrongTurns() {
		wrong := turnedBy(right, c.turn)
		code, at := impl.SchedOk(wrong)
		if code != c.code || at != c.at {
			t.Error("SchedOk", code, at, "not", c.code, c.at)
		}
		codes[code]++
		changeRefused(t, "the next one is wrong", right, wrong, g)
		changeRefused(t, "the old one is wrong", wrong, right, g)
		changeRefused(t, "both are wrong", wrong, wrong, g)
		// two at once, and three
		for _, game := range []impl.Game{{}, strangeGame(), gameBy(g, func(g *impl.Game) { g.Clocks.Acc = nil })} {
			changeRefused(t, "the next one and the game", right, wrong, game)
			changeRefused(t, "the old one and the game", wrong, right, game)
			changeRefused(t, "all of them", wrong, wrong, game)
		}
		changeRefused(t, "the next one and another Reg", emptied(worldReg()), wrong, newGame(t, emptied(worldReg())))
		changeRefused(t, "no systems, and the next one is wrong", impl.Sched{Reg: checkReg()}, wrong, newGame(t, impl.Sched{Reg: checkReg()}))
		for _, other := range wrongTurns() {
			changeRefused(t, "each in its own way", wrong, turnedBy(right, other.turn), g)
		}
	}
	for code := impl.SchReg; code <= impl.SchRule; code++ {
		if codes[code] == 0 {
			t.Error("code", code, "is not tried")
		}
	}
	for i, r := range wrongRegs() {
		if i%2 == 0 {
			wrong := turnedBy(right, func(s *impl.Sched) { s.Reg = r })
			changeRefused(t, "a wrong Reg", right, wrong, g)
			changeRefused(t, "a wrong Reg on both sides", wrong, wrong, g)
			changeRefused(t, "a wrong Reg, no systems", impl.Sched{Reg: r}, impl.Sched{Reg: r}, impl.Game{})
		}
	}
}

// A next schedule that only the Reg, or its text, forbids.
func TestChangeToATextThatTheRegForbids(t *testing.T) {
	old, g := watched()
	for _, text := range []string{"$Nobody = 1;", "$Score = 1.5;", "each with Nobody { }", "hear Score as h { }", "emit Hp 1;", "kill;", "let q = r;"} {
		changeRefused(t, text, old, staged("", "a: "+text), g)
		changeRefused(t, text+", unused", old, turnedBy(old, func(s *impl.Sched) { s.Text += "system z { " + text + " }" }), g)
	}
	// a resource that a gate names, of another kind
	when := turnedBy(old, func(s *impl.Sched) { s.Systems[1].When = "Wind" })
	changeRefused(t, "a When", old, when, g)
}

// All at once, and far too much of all: the game is handed back, whatever it is.
func TestChangeOfAllWrong(t *testing.T) {
	many := schedOf("", "")
	many.Systems, many.Rules = make([]impl.Sys, 100000), make([]impl.Rule, 100000)
	scheds := []impl.Sched{{Text: "}"}, {Reg: wrongRegs()[0]}, staged("", "a: kill;"), many, {Reg: impl.Reg{Comps: make([]impl.Decl, 100000)}}}
	games := []impl.Game{{}, strangeGame(), {Cursors: make([][]int, 1000)}, {Streams: make([]impl.Stream, 1000)}, {Clocks: behind(5, make([]int, 1000)...)}, {World: crowd(impl.MaxEnts + 1)}}
	for _, old := range scheds {
		for _, next := range scheds {
			for _, g := range games {
				changeRefused(t, "all wrong", old, next, g)
			}
		}
	}
}
