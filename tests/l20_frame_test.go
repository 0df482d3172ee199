package tests

import (
	"fmt"
	"slices"
	"testing"

	"loop.example/g00070/impl"
)

func TestNewGames(t *testing.T) {
	for _, systems := range []string{"", "a", "a b c", "p o n m l k j i h g f e d c b a"} {
		s := schedOf(systems, "")
		n := len(s.Systems)
		want := impl.Game{
			World:   impl.World{Res: []impl.Val{whole(0), float(0), pair(0, 0), yesNo(false)}},
			Streams: make([]impl.Stream, 4),
			Cursors: slices.Repeat([][]int{{0, 0, 0, 0}}, n),
			Clocks:  impl.Clocks{Acc: make([]int, n)},
		}
		if g := newGame(t, s); !sameGame(g, want) {
			t.Errorf("%q:\n%s", systems, gameText(g))
		}
	}
	for _, r := range rightRegs() {
		s := impl.Sched{Reg: r, Text: "system a { }", Systems: []impl.Sys{{Name: "a"}}}
		g := newGame(t, s)
		if !sameWorld(g.World, impl.NewWorld(r)) || len(g.Streams) != len(r.Evts) || !slices.Equal(g.Cursors[0], make([]int, len(r.Evts))) {
			t.Errorf("%v:\n%s", r, gameText(g))
		}
		frameIs(t, s, g, 0, 0, "[]", "[[[]]]")
	}
	if g := newGame(t, impl.Sched{}); !sameGame(g, impl.Game{}) {
		t.Error("of nothing:", gameText(g))
	}
}

// A schedule that has no plan has games all the same.
func TestGamesOfSchedulesWithoutAPlan(t *testing.T) {
	circle := staged("a>b b>a", "a: $Score = 1;", "b: $Score = 2;")
	clash := strictly(staged("", "a: $Score = 1;", "b: $Score = 2;"))
	many := schedOf(inSets(16, "One"), "One>One")
	for _, c := range []struct {
		s        impl.Sched
		code, at int
	}{{circle, impl.SchCircle, 0}, {clash, impl.SchClash, 0}, {many, impl.SchRule, 0}} {
		g := newGame(t, c.s)
		taskDone(t, c.s, g, 1, 1, 10)
		frameRefused(t, "no plan", c.s, g, 0, 10, c.code, c.at)
	}
	scoreIs(t, taskIs(t, circle, newGame(t, circle), 1, 1, 10, 0, trouble(1, 0, 1)), 2)
}

func TestRightGames(t *testing.T) {
	s := staged("", "a: $Score = 1;", "b: hear Hit as h { }")
	for what, turn := range map[string]func(g *impl.Game){
		"by hand":           func(g *impl.Game) {},
		"any cursors":       func(g *impl.Game) { g.Cursors = [][]int{{leastInt, -1, 0, mostInt}, {7, 7, 7, 7}} },
		"Accs at the edges": func(g *impl.Game) { g.Clocks.Acc = []int{0, 4000000} },
		"any phase":         func(g *impl.Game) { g.Clocks = behind(mostInt, 1, 2) },
		"full streams":      func(g *impl.Game) { g.Streams = fullState().Streams },
		"a new world":       func(g *impl.Game) { g.World = impl.NewWorld(s.Reg) },
	} {
		g := gameBy(gameOf(s, runState()), turn)
		if !impl.GameOk(s, g) {
			t.Error(what, gameText(g))
		}
		frameDone(t, s, g, 3, 50)
	}
}

// Each run goes on from what the one before left.
func TestTasksOfSomeTimes(t *testing.T) {
	s := staged("",
		"a: $Score = $Score * 2 + 1; each with Mp { .Mp = .Mp + $Score; } emit Hit $Score;",
		"b: spawn(Hp = $Score); each with Mp { put Heat = 0.5; } $Score = $Score + 1;",
		"c: hear Hit as h { $Score = $Score + h; } emit Hit 100;",
		"d:")
	g := gameOf(s, runState())
	for times, score := range []int{1000, 2001, 4003, 8007, 16015} {
		steps := 0
		if times > 0 {
			steps = 7
		}
		next := taskIs(t, s, g, 0, times, 100, 0, trouble(0, 0, steps))
		scoreIs(t, next, score)
		if got := len(next.Streams[0].New); got != 1+times {
			t.Error("sent", got)
		}
		next, cmds, wrong := taskDone(t, s, g, 1, times, 100)
		scoreIs(t, next, 1000+times)
		if len(cmds) != 3*times || wrong.Fault != impl.FaultNone {
			t.Error("commands", cmds, wrong)
		}
		for i := range times {
			if likely := cmdSpawn(cell(0, whole(1000+i))); !likeCmd(cmds[3*i], likely) || !likeCmd(cmds[3*i+1], cmdPut(ent(0, 4), 5, float(0.5))) {
				t.Error("commands of run", i, cmds)
			}
		}
		taskIs(t, s, g, 3, times, 0, 0, trouble(3, 0, 0))
	}
	// its cursor stands at 6, and 6 and 7 are to be heard: in a second run what
	// the first one has sent, and nothing twice
	for times, score := range []int{1000, 1013, 1113, 1213, 1313} {
		next, _, _ := taskDone(t, s, g, 2, times, 100)
		scoreIs(t, next, score)
		if want := []int{6, 8, 9, 10, 11}[times]; next.Cursors[2][0] != want {
			t.Error("the cursor is", next.Cursors[2][0], "not", want)
		}
	}
}

// A frame without systems turns the streams, and begins.
func TestFramesWithoutSystems(t *testing.T) {
	for _, text := range []string{"", "system a { $Score = 1; }", "fn f() int { return 1; }"} {
		s := impl.Sched{Reg: checkReg(), Text: text}
		g := gameOf(s, runState())
		next := frameIs(t, s, g, 5, 100, "[]", "[]")
		want := gameBy(g, func(g *impl.Game) {
			g.Streams = []impl.Stream{stream(7, numbered(7, 1), nil), stream(9, nil, nil), stream(4, nil, nil), stream(0, []impl.Val{yesNo(true)}, nil)}
			g.Clocks = behind(1000)
		})
		if !sameGame(next, want) {
			t.Error(gameText(next))
		}
	}
	s := impl.Sched{}
	if next := frameIs(t, s, impl.Game{}, impl.MaxTick, impl.MaxFuel, "[]", "[]"); !sameGame(next, impl.Game{Clocks: behind(0)}) {
		t.Error(gameText(next))
	}
}

func TestFramesOfOneSystem(t *testing.T) {
	for _, c := range []struct{ body, troubles, codes string }{
		{"", "[]", "[[[]]]"},
		{"$Score = 7;", "[]", "[[[]]]"},
		{"emit Hit 1; hear Hit as h { }", "[]", "[[[]]]"},
		{"spawn(); spawn(Hp = 1);", "[]", "[[[0 0]]]"},
		{"each with Mp { kill; drop Mp; put Mp = 1; }", "[]", "[[[0 2 2 0 2 2]]]"},
		{"each with Mp { drop Mp; drop Mp; drop On; }", "[]", "[[[0 4 4 0 4 4]]]"},
		{"spawn(); $Score = 1 / 0;", "[{0 2 2}]", "[[[]]]"},
		{"loop 5000 { }", "[{0 3 100}]", "[[[]]]"},
		{"loop 61 { spawn(); }", "[{0 3 100}]", "[[[]]]"},
	} {
		s := staged("", "a: "+c.body)
		frameIs(t, s, gameOf(s, runState()), 0, 100, c.troubles, c.codes)
	}
}

// Systems of one stage see what those ahead of them have done, but for their
// commands; those of the next one see these, too.
func TestFramesOfSomeStages(t *testing.T) {
	tops := []string{
		"a: spawn(Hp = 3); $Score = $Score + 1;",
		"b: each with Hp { $Score = $Score + .Hp * 10; }",
		"c: each with Hp { .Hp = .Hp + 1; kill; }",
		"d: each with Hp { $Score = $Score + 1000; }",
	}
	one := staged("", tops...)
	g := frameIs(t, one, newGame(t, one), 0, 100, "[]", "[[[0] [] [] []]]")
	scoreIs(t, g, 1)
	liveIs(t, g, 1)
	g = frameIs(t, one, g, 0, 100, "[]", "[[[0] [] [0] []]]")
	scoreIs(t, g, 1032)
	liveIs(t, g, 1)
	some := staged("a>b b>c c>d", tops...)
	g = frameIs(t, some, newGame(t, some), 0, 100, "[]", "[[[0]] [[] [0]] [[]]]")
	scoreIs(t, g, 31)
	liveIs(t, g, 0)
	back := staged("d>c c>b b>a", tops...)
	g = frameIs(t, back, newGame(t, back), 0, 100, "[]", "[[[] []] [[] [0]]]")
	scoreIs(t, g, 1)
	liveIs(t, g, 1)
	g = frameIs(t, back, g, 0, 100, "[]", "[[[] [0]] [[] [0]]]")
	scoreIs(t, g, 1002)
	liveIs(t, g, 1)
}

// What was sent in one frame is heard in the next by whoever comes ahead of the
// sender, once, and is gone behind that one.
func TestEventsFromFrameToFrame(t *testing.T) {
	s := staged("a>b b>c", "a: hear Hit as h { $Score = $Score + h; }", "b: emit Hit 1; emit Hit 10;", "c: hear Hit as h { $Wind = $Wind + 1.0; }", "d in=-1: hear Hit as h { $Over = yes; }")
	g := newGame(t, s)
	for frame := range 6 {
		g = frameIs(t, s, g, 1, 100, "[]", "[[[] [] []]]")
		scoreIs(t, g, 11*frame)
		if !same(g.World.Res[1], float(float64(2*frame+2))) {
			t.Error("frame", frame, "c has heard", g.World.Res[1])
		}
		want := []string{fmt.Sprint(2 * frame), "0", fmt.Sprint(2*frame + 2), "0"}
		for i, list := range g.Cursors {
			if fmt.Sprint(list[0]) != want[i] || !slices.Equal(list[1:], []int{0, 0, 0}) {
				t.Error("frame", frame, "cursors of", i, list)
			}
		}
		if !sameStream(g.Streams[0], stream(2*frame, []impl.Val{whole(1), whole(10)}, nil)) {
			t.Error("frame", frame, g.Streams[0])
		}
	}
}

// A fault stops its own system alone, and drops what it wrote down; what it has
// done to resources, columns, streams and its cursor stays.
func TestFaultsBesideOthers(t *testing.T) {
	s := staged("",
		"a: spawn(Hp = 1); $Score = $Score + 1;",
		"b: spawn(Hp = 2); $Score = $Score * 10; emit Hit 4; hear Hit as h { $Wind = real(h); } each with Mp { .Mp = 9; kill; } let q = 1 / 0; $Score = 0;",
		"c: spawn(Hp = 3); $Score = $Score + 2; hear Hit as h { $Score = $Score + h * 10000; }",
		"d: loop 2000 { spawn(Hp = 4); }")
	state := runState()
	state.Streams[0] = impl.Stream{}
	state.Cursors = []int{0, 0, 0, 0}
	g := frameIs(t, s, gameOf(s, state), 0, 150, "[{1 2 14} {3 4 122}]", "[[[0] [] [0] []]]")
	scoreIs(t, g, 10012+40000)
	liveIs(t, g, 7)
	if !same(g.World.Res[1], float(4)) || g.Cursors[1][0] != 1 || g.Cursors[2][0] != 1 || !sameStream(g.Streams[0], stream(0, []impl.Val{whole(4)}, nil)) {
		t.Error(gameText(g))
	}
	if !sameVals(g.World.Tables[0].Cells[1], []impl.Val{whole(9), whole(9)}) {
		t.Error("what was done to a column is gone:", g.World.Tables[0])
	}
}

// Of two systems that are apart either may run first.
func TestSystemsThatAreApart(t *testing.T) {
	for _, pair := range [][2]string{
		{"$Score = $Score + 5;", "$Wind = $Wind + 0.5;"},
		{"each with Hp { .Hp = .Hp + 1; }", "each with Mp, Hp { .Mp = .Mp * 2; } $Score = 7;"},
		{"hear Hit as h { $Score = $Score + h; }", "hear Hit as h { $Wind = real(h); }"},
		{"emit Hit 5;", "hear Burn as b { $Wind = b; } emit Went yes;"},
		{"spawn(Hp = 1); $Score = 1;", "each with Hp { kill; } $Wind = 1.0; let q = 1 / 0;"},
		{"each with Hp { drop Hp; }", "each with Hp { put Hp = 8; spawn(); }"},
		{"", "$Score = $Score / 0;"},
	} {
		s := staged("", "a: "+pair[0], "b: "+pair[1])
		p := planDone(t, s)
		if !impl.Apart(p.Effects[0], p.Effects[1]) {
			t.Fatal("not apart:", s.Text)
		}
		g := gameOf(s, runState())
		for times := range impl.MaxTimes + 1 {
			first, cmdsA, wrongA := taskDone(t, s, g, 0, times, 100)
			both, cmdsB, wrongB := taskDone(t, s, first, 1, times, 100)
			other, listB, toldB := taskDone(t, s, g, 1, times, 100)
			turned, listA, toldA := taskDone(t, s, other, 0, times, 100)
			if !sameGame(both, turned) || wrongA != toldA || wrongB != toldB || !slices.EqualFunc(cmdsA, listA, likeCmd) || !slices.EqualFunc(cmdsB, listB, likeCmd) {
				t.Errorf("%s\n%s\n%s", s.Text, gameText(both), gameText(turned))
			}
		}
	}
}

// The same two in two schedules that have them in either order.
func TestSchedulesOfSystemsThatAreApart(t *testing.T) {
	a, b := "a: $Score = $Score + 5; hear Hit as h { emit Burn 0.5; }", "b: each with Hp { .Hp = .Hp * 2; } hear Hit as h { $Wind = $Wind + real(h); }"
	one, other := staged("", a, b), staged("", b, a)
	g, h := gameOf(one, runState()), gameOf(other, runState())
	for range 4 {
		g, h = frameIs(t, one, g, 1, 100, "[]", "[[[] []]]"), frameIs(t, other, h, 1, 100, "[]", "[[[] []]]")
		turned := gameBy(h, func(h *impl.Game) { slices.Reverse(h.Cursors) })
		if !sameGame(g, turned) {
			t.Fatalf("%s\n%s", gameText(g), gameText(turned))
		}
	}
}

// Clocks and gates go on from frame to frame, by the world ahead of each.
func TestFramesWithGates(t *testing.T) {
	s := staged("a>b", "a: $Score = $Score + 1;", "b every=10: $Wind = $Wind + 1.0; spawn();", "c enter=2: $Over = yes;", "d when=Over: spawn(Hp = $Score);")
	g := newGame(t, s)
	g = frameIs(t, s, g, 25, 100, "[]", "[[[] [0 0]]]")
	g = frameIs(t, s, g, 4, 100, "[]", "[[[]]]")
	scoreIs(t, g, 2)
	// the phase is 2 now, and a makes it 3
	g = frameIs(t, s, g, 1, 100, "[]", "[[[] [0] []]]")
	g = frameIs(t, s, g, 0, 100, "[]", "[[[] [0]]]")
	g = frameIs(t, s, g, 99, 100, "[]", "[[[] [0 0 0 0] [0]]]")
	scoreIs(t, g, 5)
	liveIs(t, g, 9)
	if !sameClocks(g.Clocks, behind(4, 0, 9, 0, 0)) || !same(g.World.Res[1], float(7)) {
		t.Error(gameText(g))
	}
}

// A small game over some frames: things are made, hurt, and taken away.
func TestManyFrames(t *testing.T) {
	s := staged("make>hurt hurt>bury bury>count",
		"fn left(n int) int { return n - 2; }",
		"make every=3: spawn(Hp = 5);",
		"hurt: each with Hp { .Hp = left(.Hp); if .Hp < 0 { emit Hit .Hp; } }",
		"bury: each with Hp { if .Hp < 0 { kill; } }",
		"count: hear Hit as h { $Score = $Score - h; }")
	g := newGame(t, s)
	var live, scores []int
	for range 9 {
		g = frameDone(t, s, g, 2, 100).Game
		live, scores = append(live, len(impl.EntList(g.World.Ents))), append(scores, g.World.Res[0].I)
	}
	if fmt.Sprint(live) != "[0 1 2 1 1 2 1 1 2]" || fmt.Sprint(scores) != "[0 0 0 1 2 2 3 4 4]" {
		t.Error(live, scores)
	}
}
