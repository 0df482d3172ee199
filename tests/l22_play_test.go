package tests

import (
	"fmt"
	"slices"
	"strings"
	"testing"

	"loop.example/g00070/impl"
)

func TestPlayOfNoBeat(t *testing.T) {
	s, g := watched()
	for _, beats := range [][]impl.Beat{nil, {}, make([]impl.Beat, 0, 40)} {
		if h := playIs(t, s, g, beats, "[]"); !sameGame(h, g) {
			t.Error(gameText(h))
		}
		// nothing is played, so nothing is asked for
		for _, s := range []impl.Sched{{}, {Text: "}"}, staged("a>b b>a", "a:", "b:")} {
			for _, g := range []impl.Game{{}, strangeGame(), g} {
				playRefused(t, "no beat", s, g, beats, -1)
			}
		}
	}
}

func TestPlayOfOneBeat(t *testing.T) {
	s, g := watched()
	for _, tick := range []int{0, 1, 6, 30, impl.MaxTick} {
		for workers := 1; workers <= impl.MaxWorkers; workers++ {
			h := playIs(t, s, g, []impl.Beat{beat(tick, workers, 1, 2, 3)}, "[]")
			f, _, _, _ := impl.FrameSide(s, g, tick, impl.MaxSteps, workers, nil)
			if fields := gameDiffers(h, f.Game); fields != "" {
				t.Error(tick, workers, fields)
			}
		}
	}
}

// Ticks, events and phases go on from beat to beat.
func TestPlayOfSomeBeats(t *testing.T) {
	s := staged("a>b", "a every=10: $Score = $Score + 1; emit Hit $Score;", "b: hear Hit as h { $Wind = $Wind + real(h); }", "c enter=2: $Home = $Home + pair(1.0, 0.0);", "d: spawn(Hp = $Score);")
	g := newGame(t, s)
	for n, want := range []struct {
		score int
		acc   int
		wind  float64
		home  float64
	}{{0, 0, 0, 0}, {0, 4, 0, 0}, {0, 8, 0, 0}, {1, 2, 1, 0}, {3, 6, 6, 0}, {4, 9, 10, 0}} {
		h := playIs(t, s, g, beatsBy(4, 4, 4, 24, 13)[:n], "[]")
		scoreIs(t, h, want.score)
		liveIs(t, h, n)
		if h.Clocks.Acc[0] != want.acc || !same(h.World.Res[1], float(want.wind)) || !same(h.World.Res[2], pair(want.home, 0)) || h.Clocks.Begun != (n > 0) {
			t.Error(n, gameText(h))
		}
	}
	// ticks in another order are another game
	h := playIs(t, s, g, beatsBy(24, 13, 4, 4, 4), "[]")
	scoreIs(t, h, 4)
	if same(h.World.Res[2], pair(0, 0)) {
		t.Error("the phase 2 is never entered:", gameText(h))
	}
}

// Workers and picks are the beat's own, and have no say in the game.
func TestPlayByAnyWorkersAndPicks(t *testing.T) {
	s := staged("a>b", "a: spawn(Hp = $Score); emit Hit 1;", "b: hear Hit as h { $Score = $Score + h; } let q = 1 / (2 - $Score);", "c: $Wind = $Wind + 1.0;", "d: $Wind = $Wind * 2.0;")
	g := newGame(t, s)
	d := dice(241)
	want, list := played(t, s, g, beatsBy(1, 1, 1, 1, 1))
	if fmt.Sprint(list) != "[{1 2 4}]" {
		t.Error(list)
	}
	for range 60 {
		var beats []impl.Beat
		for range 5 {
			beats = append(beats, beat(1, 1+d.roll(impl.MaxWorkers), anyPicks(&d, 30)...))
		}
		if h, troubles := played(t, s, g, beats); !sameGame(h, want) || !slices.Equal(troubles, list) {
			t.Fatal(beatsText(beats), troubles, gameText(h))
		}
	}
}

// The fuel is MaxSteps, for each run of each beat.
func TestFuelOfPlay(t *testing.T) {
	s := staged("", "a: loop $Score { } $Score = $Score + 1;")
	g := newGame(t, s)
	g.World.Res[0] = whole(impl.MaxSteps - 3)
	h := playIs(t, s, g, beatsBy(0, 0), "[]")
	scoreIs(t, h, impl.MaxSteps-1)
	one := fmt.Sprintf("{0 %d %d}", impl.FaultFuel, impl.MaxSteps)
	h = playIs(t, s, g, beatsBy(0, 0, 0), "["+one+"]")
	scoreIs(t, h, impl.MaxSteps-1)
	h = playIs(t, s, g, beatsBy(0, 0, 0, 0, 0), "["+strings.Join([]string{one, one, one}, " ")+"]")
	scoreIs(t, h, impl.MaxSteps-1)
}

// Troubles of all frames stand one behind the other, also those of one system,
// each frame's in the plan's Order.
func TestTroublesOfPlay(t *testing.T) {
	s := staged("c>a", "a: let q = 1 / 0;", "b: $Score = $Score + 1; let q = 1 / ($Score % 3);", "c: loop 61 { spawn(); }", "d every=2: let r = 1; let q = 5 % 0;")
	g := newGame(t, s)
	const a, b, c, d = "{0 2 1}", "{1 2 2}", "{2 4 122}", "{3 2 2}"
	playIs(t, s, g, beatsBy(0), "["+c+" "+a+"]")
	playIs(t, s, g, beatsBy(0, 0), "["+strings.Join([]string{c, a, c, a}, " ")+"]")
	playIs(t, s, g, beatsBy(1, 1, 1, 3), "["+strings.Join([]string{c, a, c, d, a, b, c, a, c, d, a}, " ")+"]")
	stage := planDone(t, s).Stage
	if numbersText(stage) != "1 0 0 0" {
		t.Error("stages", stage)
	}
	none := staged("", "a: $Score = 1;")
	playIs(t, none, newGame(t, none), beatsBy(1, 2, 3, 4, 5), "[]")
}

func TestPlayConstant(t *testing.T) {
	if impl.MaxBeats != 30 {
		t.Error("another number of beats")
	}
}

func TestMostBeats(t *testing.T) {
	s := staged("", "a: $Score = $Score + 1;", "b every=3: let q = 1 / 0;")
	g := newGame(t, s)
	for _, n := range []int{impl.MaxBeats - 1, impl.MaxBeats} {
		h, troubles := played(t, s, g, beatsBy(slices.Repeat([]int{1}, n)...))
		scoreIs(t, h, n)
		if len(troubles) != n/3 {
			t.Error(n, troubles)
		}
	}
	for _, n := range []int{impl.MaxBeats + 1, impl.MaxBeats + 2, 2 * impl.MaxBeats, 1000, 1 << 20} {
		right := slices.Repeat([]impl.Beat{beat(1, 1)}, n)
		playRefused(t, "too many", s, g, right, impl.MaxBeats)
		// whatever they are, and whatever else is wrong
		playRefused(t, "too many, all wrong", s, g, make([]impl.Beat, n), impl.MaxBeats)
		for _, game := range []impl.Game{{}, strangeGame()} {
			playRefused(t, "too many, no game", s, game, right, impl.MaxBeats)
			playRefused(t, "too many, no schedule", impl.Sched{Text: "}"}, game, right, impl.MaxBeats)
		}
	}
	// room behind the beats is none of them
	roomy := make([]impl.Beat, 2, 5*impl.MaxBeats)
	roomy[0], roomy[1] = beat(1, 1), beat(2, 2)
	played(t, s, g, roomy)
}

// wrongBeats is those that FrameSide refuses, each for one reason.
func wrongBeats() map[string]impl.Beat {
	return map[string]impl.Beat{
		"nothing":               {},
		"no workers":            beat(1, 0),
		"workers below 0":       beat(1, -1),
		"workers far below 0":   beat(1, leastInt),
		"too many workers":      beat(1, impl.MaxWorkers+1),
		"far too many workers":  beat(1, mostInt),
		"a tick below 0":        beat(-1, 1),
		"a tick far below 0":    beat(leastInt, 1),
		"a tick above the most": beat(impl.MaxTick+1, 1),
		"a tick far above it":   beat(mostInt, 1),
		"too many picks":        beat(1, 1, make([]int, impl.MaxPicks+1)...),
		"a tick and no workers": beat(-1, 0),
		"picks and no workers":  beat(1, 0, make([]int, impl.MaxPicks+1)...),
		"all of them":           beat(impl.MaxTick+1, 9, make([]int, impl.MaxPicks+1)...),
	}
}

// The first beat, one between and the last one, of few and of as many as there
// may be: what the beats ahead of it have left, and told.
func TestBeatsThatAreRefused(t *testing.T) {
	s := staged("", "a: $Score = $Score + 1; emit Hit 1;", "b every=2: let q = 1 / 0;", "c: hear Hit as h { $Wind = $Wind + 1.0; }")
	g := newGame(t, s)
	for what, wrong := range wrongBeats() {
		for _, n := range []int{1, 2, 5, impl.MaxBeats} {
			for _, at := range []int{0, 1, n / 2, n - 2, n - 1} {
				if at < 0 || at >= n {
					continue
				}
				beats := beatsBy(slices.Repeat([]int{1}, n)...)
				beats[at] = wrong
				h, troubles := playStops(t, what, s, g, beats, at)
				scoreIs(t, h, at)
				if len(troubles) != at/2 || !same(h.World.Res[1], float(float64(at))) {
					t.Error(what, n, at, troubles, gameText(h))
				}
				if at == 0 {
					playRefused(t, what, s, g, beats, 0)
				}
			}
		}
	}
	// of several the first one counts
	beats := beatsBy(1, 1, 1, 1, 1, 1)
	beats[2], beats[3], beats[5] = beat(1, 0), beat(-1, 1), impl.Beat{}
	playStops(t, "several", s, g, beats, 2)
	playStops(t, "without the first", s, g, slices.Delete(beats, 2, 3), 2)
}

// Ticks, workers and picks that are met exactly.
func TestBeatsAtTheirLimits(t *testing.T) {
	s := staged("", "a every=1000000: $Score = $Score + 1;", "b: $Wind = $Wind + 1.0;")
	g := newGame(t, s)
	beats := []impl.Beat{beat(0, 1), beat(impl.MaxTick, impl.MaxWorkers, make([]int, impl.MaxPicks)...), beat(impl.MaxTick, 1, slices.Repeat([]int{mostInt, leastInt}, impl.MaxPicks/2)...)}
	scoreIs(t, playIs(t, s, g, beats, "[]"), 2)
	// picks are each beat's own: what one leaves is not the next one's
	more := slices.Repeat([]impl.Beat{beat(1, 2, make([]int, impl.MaxPicks)...)}, impl.MaxBeats)
	playIs(t, s, g, more, "[]")
}

// A schedule that MakePlan refuses, though it is right by SchedOk, plays no beat.
func TestPlayWithoutAPlan(t *testing.T) {
	for _, s := range []impl.Sched{
		staged("c>b b>c", "a: $Score = 1;", "b:", "c:"),
		strictly(staged("", "a:", "b: $Score = 1;", "c: let q = $Score;")),
		schedOf(inSets(15, "One")+" p", "One>One"),
	} {
		if code, _ := impl.SchedOk(s); code != impl.SchDone {
			t.Error("SchedOk", code)
		}
		g := gameOf(s, runState())
		for n := range 4 {
			playRefused(t, "no plan", s, g, beatsBy(slices.Repeat([]int{1}, n)...), -yes(n == 0))
		}
		playRefused(t, "no plan, too many", s, g, make([]impl.Beat, impl.MaxBeats+1), impl.MaxBeats)
		// a change to it is none the less right, and its game as it was
		if h := changed(t, s, s, g); !sameGame(h, g) {
			t.Error(gameText(h))
		}
	}
}

func TestPlayOfWrongGamesAndSchedules(t *testing.T) {
	s, g := watched()
	beats := beatsBy(1, 2, 3)
	for what, turn := range wrongGames() {
		playRefused(t, what, s, gameBy(g, turn), beats, 0)
		playRefused(t, what+", no beat", s, gameBy(g, turn), nil, -1)
		playRefused(t, what+", too many", s, gameBy(g, turn), make([]impl.Beat, impl.MaxBeats+1), impl.MaxBeats)
	}
	right := gatedShow()
	g = gameOf(right, runState())
	for _, c := range wrongTurns() {
		wrong := turnedBy(right, c.turn)
		playRefused(t, "a wrong schedule", wrong, g, beats, 0)
		playRefused(t, "a wrong schedule and game", wrong, strangeGame(), beats, 0)
		playRefused(t, "a wrong schedule, no beat", wrong, g, nil, -1)
		playRefused(t, "a wrong schedule, a wrong beat", wrong, g, make([]impl.Beat, 2), 0)
	}
	two := staged("", "a:", "b:")
	playRefused(t, "another schedule's game", two, g, beats, 0)
}

// Cut anywhere, also where a beat is refused in one of the two parts.
func TestPlayInTwoParts(t *testing.T) {
	s := staged("a>b", "a every=4: spawn(Hp = $Score); emit Hit $Score; $Score = $Score + 1;", "b: hear Hit as h { $Wind = $Wind + real(h); } let q = 1 / ($Score % 2);", "c leave=1: each with Hp { kill; }")
	g := newGame(t, s)
	beats := beatsBy(3, 1, 4, 9, 0, 2, 30, 1, 1)
	if _, list := played(t, s, g, beats); len(list) < 2 {
		t.Error("hardly any troubles", list)
	}
	inParts(t, s, g, nil)
	inParts(t, s, g, beats)
	inParts(t, s, g, beatsBy(slices.Repeat([]int{3}, impl.MaxBeats)...))
	for at := range beats {
		marred := cloneBeats(beats)
		marred[at].Workers = 0
		inParts(t, s, g, marred)
		marred[len(beats)-1].Tick = -1
		inParts(t, s, g, marred)
	}
}

// A change for itself between any two beats changes nothing.
func TestPlayWithAChangeForItselfBetween(t *testing.T) {
	s := staged("a>b", "a every=4: emit Hit $Score; $Score = $Score + 1;", "b: hear Hit as h { $Wind = $Wind + real(h); }", "c enter=2: spawn(Hp = 1);", "d: let q = 1 / 0;")
	g := newGame(t, s)
	beats := beatsBy(3, 1, 4, 9, 0, 2, 30, 1, 1)
	want, list := played(t, s, g, beats)
	var troubles []impl.Trouble
	for i := range beats {
		h, more := played(t, s, changed(t, s, s, g), beats[i:i+1])
		g, troubles = h, append(troubles, more...)
	}
	if !sameGame(g, want) || !slices.Equal(troubles, list) {
		t.Error(troubles, gameText(g))
	}
}
