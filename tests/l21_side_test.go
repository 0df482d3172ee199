package tests

import (
	"fmt"
	"slices"
	"strings"
	"testing"

	"loop.example/g00070/impl"
)

func TestSidesWithoutSystems(t *testing.T) {
	for _, s := range []impl.Sched{{}, {Reg: checkReg()}, {Reg: checkReg(), Text: "system a { $Score = 1; }"}} {
		a := playOf(t, s, newGame(t, s), 5, 100)
		a.sideIs(t, 1, nil, "")
		a.sideIs(t, impl.MaxWorkers, []int{1, 2, 3}, "")
		a.in(t, nil)
		a.in(t, [][]int{})
		a.inRefused(t, "no stage", [][]int{{}})
		a.inRefused(t, "nobody", [][]int{{0}})
		if _, moves, _, _ := impl.FrameSide(s, a.g, 5, 100, 1, nil); len(moves) != 0 || len(a.one.Codes) != 0 {
			t.Error("moves of no stage", moves)
		}
	}
}

func TestSidesOfOneSystem(t *testing.T) {
	for _, body := range []string{
		"",
		"$Score = 7; $Wind = $Wind + 1.0;",
		"each with Hp { .Hp = .Hp * 2; } each with Mp { .Mp = 1; }",
		"emit Hit 1; hear Hit as h { $Score = $Score + h; }",
		"spawn(); spawn(Hp = 1); each with Mp { kill; drop Mp; put Mp = 1; }",
		"spawn(); $Score = 1 / 0;",
		"$Score = 1; loop 5000 { emit Hit 1; }",
		"loop 61 { spawn(); }",
	} {
		for _, gates := range []string{"a: ", "a every=3: ", "a every=10: "} {
			s := staged("", gates+body)
			a := playOf(t, s, gameOf(s, runState()), 9, 300)
			want := "+0 -0"
			if gates == "a every=10: " {
				want = ""
			}
			for workers := 1; workers <= impl.MaxWorkers; workers++ {
				a.sideIs(t, workers, nil, want)
				a.sideIs(t, workers, []int{5, -5, 9}, want)
			}
			a.in(t, [][]int{{0}})
		}
	}
}

// Who goes on first is chosen by the picks; who waits does so whatever they are.
func TestSidesOfSomeSystems(t *testing.T) {
	s := staged("", "a: $Score = $Score + 1;", "b: $Wind = 7.0;", "c: $Score = $Score * 10;")
	planIs(t, s, "0 0 0 | 0 1 2 | 0>2")
	a := playOf(t, s, newGame(t, s), 1, 100)
	scoreIs(t, a.one.Game, 10)
	a.sideIs(t, 2, nil, "+0 -0 +1 -1 +2 -2")
	a.sideIs(t, 2, []int{1, 1, 1}, "+1 +0 -1 -0 +2 -2")
	a.sideIs(t, 2, []int{0, 1, 1, 1}, "+0 +1 -1 -0 +2 -2")
	a.sideIs(t, 2, []int{0, 1, 0, 1, 1, 0}, "+0 +1 -0 +2 -2 -1")
	a.sideIs(t, 1, []int{1, 1, 1}, "+1 -1 +0 -0 +2 -2")
	a.sideIs(t, 1, []int{0, 0, 1}, "+0 -0 +2 -2 +1 -1")
	a.sideIs(t, impl.MaxWorkers, []int{-1, -1, -1, -1, -1, -1}, "+1 +0 -1 -0 +2 -2")
	a.in(t, [][]int{{0, 1, 2}})
	a.in(t, [][]int{{0, 2, 1}})
	a.in(t, [][]int{{1, 0, 2}})
	for _, order := range [][]int{{2, 0, 1}, {2, 1, 0}, {1, 2, 0}} {
		a.inRefused(t, "c ahead of a", [][]int{order})
	}
	if f, _, _ := impl.FrameIn(s, a.g, 1, 100, [][]int{{1, 0, 2}}); !sameFrame(f, a.one) {
		t.Error(frameText(f))
	}
}

// Numbers of tasks go by the plan's Order, and moves tell the systems.
func TestSidesInThePlansOrder(t *testing.T) {
	s := staged("d>c c>b", "a: $Score = 1;", "b: $Wind = 1.0;", "c: $Home = pair(1.0, 1.0);", "d: $Over = yes;")
	planIs(t, s, "0 0 0 0 | 0 3 2 1 | 2>1 3>2")
	a := playOf(t, s, newGame(t, s), 1, 100)
	a.sideIs(t, 2, nil, "+0 -0 +3 -3 +2 -2 +1 -1")
	a.sideIs(t, 2, []int{1, 0, 0, 0, 0, 0, 0, 0}, "+3 -3 +0 -0 +2 -2 +1 -1")
	a.sideIs(t, 2, []int{1, 1, 1, 1, 1, 1}, "+3 +0 -3 +2 -2 +1 -0 -1")
	if count := a.inAll(t, 0); count != 4 {
		t.Error("right orders:", count)
	}
}

// Systems that change resources and columns, that write commands down, that send
// and hear events, that do nothing: side by side in several stages.
func TestSidesOfSomeStages(t *testing.T) {
	s := staged("a>b b>c a>e",
		"a: spawn(Hp = 3); $Score = $Score + 1; emit Hit 4;",
		"b: each with Hp { .Hp = .Hp + 1; put Mp = .Hp; } hear Hit as h { $Wind = $Wind + real(h); }",
		"c: each with Hp { if 40 < .Hp { kill; } } emit Hit 5;",
		"d:",
		"e: hear Hit as h { $Home = $Home + pair(real(h), 1.0); }",
		"f: each with Heat { .Heat = .Heat * 0.5; } emit Burn 1.5; spawn(Heat = 8.0);",
		"g: hear Burn as x { $Over = yes; }")
	planIs(t, s, "0 1 2 0 1 0 0 | 0 3 5 6 1 4 2 | 5>6")
	d := dice(221)
	g := gameOf(s, runState())
	for frame := range 5 {
		a := playOf(t, s, g, 1, 200)
		a.manySides(t, &d)
		if frame == 0 {
			a.sideIs(t, 2, slices.Repeat([]int{1}, 14), "+3 +0 -3 +5 -5 +6 -6 -0 | +4 +1 -4 -1 | +2 -2")
			a.sideIs(t, 3, slices.Repeat([]int{2}, 14), "+5 +3 +0 -5 +6 -6 -0 -3 | +1 -1 +4 -4 | +2 -2")
		}
		for stage, want := range []int{12, 2, 1} {
			if count := a.inAll(t, stage); count != want {
				t.Error("right orders of the stage", stage, count)
			}
		}
		a.in(t, [][]int{{5, 6, 3, 0}, {4, 1}, {2}})
		g = a.one.Game
	}
	scoreIs(t, g, 1005)
	if !same(g.World.Res[1], float(1.5+6+7+4+4*(5+4))) {
		t.Error(gameText(g))
	}
}

// Every right order of small stages, of systems that are all apart and of such
// as wait in several ways.
func TestAllOrdersOfSmallStages(t *testing.T) {
	apart := []string{"a: $Score = $Score + 1; spawn(Hp = 1);", "b: $Wind = $Wind + 1.0; each with On { kill; }", "c: each with Hp { .Hp = .Hp + 1; }", "d: each with Mp { .Mp = .Mp * 3; let q = 1 / 0; }", "e: emit Burn 0.5; each with Hp { drop Hp; }"}
	for _, c := range []struct {
		rules string
		tops  []string
		count int
	}{
		{"", apart[:1], 1},
		{"", apart[:2], 2},
		{"", apart[2:], 6},
		{"", apart[1:], 24},
		{"", apart, 120},
		{"d>c", apart, 60},
		{"c>d", apart, 60},
		{"d>c c>b", apart[1:4], 1},
		{"", []string{"a: $Score = 1;", "b: $Score = $Score + 2;", "c: $Score = $Score * 3;", "d: $Wind = 1.0;"}, 4},
		{"", []string{"a: emit Hit 1;", "b: hear Hit as h { $Score = h; }", "c: hear Hit as h { $Wind = real(h); }", "d: emit Hit 2;"}, 2},
		{"", []string{"a: emit Hit 1;", "b: hear Hit as h { }", "c: emit Burn 1.0;", "d: hear Burn as h { }"}, 6},
	} {
		s := staged(c.rules, c.tops...)
		a := playOf(t, s, gameOf(s, runState()), 0, 100)
		if len(a.shifts) != 1 {
			t.Fatal("stages", len(a.shifts))
		}
		if count := a.inAll(t, 0); count != c.count {
			t.Errorf("%d right orders, not %d: %s", count, c.count, s.Text)
		}
		d := dice(222)
		a.manySides(t, &d)
	}
}

// Events that are sent and heard within a stage, side by side with others, come
// to the same places of the stream, and to all who hear.
func TestSidesOfEvents(t *testing.T) {
	s := staged("",
		"a: loop 3 { emit Hit 1; }", "b: hear Hit as h { $Score = $Score + h; }", "c: hear Hit as h { $Wind = $Wind + real(h); }",
		"d: emit Hit 20; emit Burn 2.5;", "e: hear Burn as x { $Home = $Home + pair(x, 0.0); } hear Hit as h { $Over = not (h == 1); }", "f: emit Went yes;")
	d := dice(223)
	g := newGame(t, s)
	for range 4 {
		a := playOf(t, s, g, 0, 100)
		a.manySides(t, &d)
		a.in(t, [][]int{{5, 0, 2, 1, 3, 4}})
		a.in(t, [][]int{{0, 1, 2, 5, 3, 4}})
		a.inRefused(t, "one hears ahead of who sends", [][]int{{1, 0, 2, 3, 4, 5}})
		g = a.one.Game
	}
	scoreIs(t, g, 4*3+3*20)
}

// A whole game, played on by each way from what that way has left.
func TestSidesOverManyFrames(t *testing.T) {
	s := staged("make>hurt hurt>bury bury>count",
		"fn left(n int) int { return n - 2; }",
		"make every=3: spawn(Hp = 5);",
		"hurt: each with Hp { .Hp = left(.Hp); if .Hp < 0 { emit Hit .Hp; } }",
		"bury: each with Hp { if .Hp < 0 { kill; } }",
		"count: hear Hit as h { $Score = $Score - h; }",
		"blow: $Wind = $Wind + 0.25;",
		"move every=2: each with Hp { put Pos = pair($Wind, 1.0); }")
	d := dice(224)
	one := newGame(t, s)
	games := slices.Repeat([]impl.Game{one}, 4)
	for frame := range 12 {
		a := playOf(t, s, one, 2, 100)
		one = a.one.Game
		for i, workers := range []int{1, 2, impl.MaxWorkers} {
			f, _, _, _ := impl.FrameSide(s, games[i], 2, 100, workers, anyPicks(&d, 30))
			games[i] = f.Game
		}
		f, _, _ := impl.FrameIn(s, games[3], 2, 100, a.anyOrders(&d))
		games[3] = f.Game
		for i, g := range games {
			if !sameGame(g, one) {
				t.Fatalf("frame %d, way %d:\n%s\n%s", frame, i, gameText(g), gameText(one))
			}
		}
	}
	scoreIs(t, one, 6)
}

// As many systems as there may be: all apart, all one behind the other, and all
// but one behind that one.
func TestSidesOfMostSystems(t *testing.T) {
	var apart, row, fan []string
	for i, name := range schedNames[:impl.MaxSys] {
		apart = append(apart, fmt.Sprintf("%s: spawn(Hp = %d); let q = %d; let r = 1 / (q %% 5);", name, i, i))
		row = append(row, name+": $Score = $Score * 3 + 1; each with Hp { .Hp = .Hp + $Score; }")
		fan = append(fan, name+": let q = $Score;")
	}
	fan[0] = "a: $Score = 9;"
	d := dice(225)
	for _, tops := range [][]string{apart, row, fan} {
		s := staged("", tops...)
		a := playOf(t, s, gameOf(s, runState()), 1, 100)
		a.manySides(t, &d)
		for range 20 {
			a.side(t, 1+d.roll(impl.MaxWorkers), anyPicks(&d, 40))
			a.in(t, a.anyOrders(&d))
		}
	}
	s := staged("", apart...)
	a := playOf(t, s, newGame(t, s), 1, 100)
	moves := a.side(t, impl.MaxWorkers, slices.Repeat([]int{-1}, 32))
	if impl.Widest(moves[0]) != impl.MaxWorkers || len(moves[0]) != 2*impl.MaxSys {
		t.Error("hardly side by side:", stagesText(moves))
	}
	s = staged("", row...)
	a = playOf(t, s, newGame(t, s), 1, 100)
	a.sideIs(t, impl.MaxWorkers, slices.Repeat([]int{-1}, 32), strings.Join(strings.Fields("+0 -0 +1 -1 +2 -2 +3 -3 +4 -4 +5 -5 +6 -6 +7 -7 +8 -8 +9 -9 +10 -10 +11 -11 +12 -12 +13 -13 +14 -14 +15 -15"), " "))
}

// Systems that run several times in a frame do so within one task.
func TestSidesOfSeveralTimes(t *testing.T) {
	s := staged("", "a every=2: $Score = $Score + 1; spawn(Hp = $Score);", "b every=3: $Wind = $Wind + 1.0; spawn(Mp = 1);", "c every=1: each with Hp { .Hp = .Hp * 2; }", "d every=9: $Over = yes;")
	d := dice(226)
	g := gameOf(s, runState())
	for tick := range 12 {
		a := playOf(t, s, g, tick, 100)
		a.manySides(t, &d)
		a.in(t, [][]int{{2, 3, 1, 0}})
		g = a.one.Game
	}
}

func TestStrayOfTasks(t *testing.T) {
	s := staged("",
		"fn more(n int) int { $Score = $Score + n; emit Burn 0.5; return n; }",
		"a: let q = more(2);",
		"b: each with Hp { .Hp = .Hp + 1; put Mp = 1; } spawn(Hp = 1);",
		"c: hear Hit as h { $Wind = $Wind + real(h); }",
		"d: emit Hit 5; each with Mp { .Mp = 77; kill; } let q = 1 / 0;",
		"e:",
		"f: $Score = 1000; each with Heat { .Heat = .Heat; }")
	g := gameOf(s, runState())
	changes := "1 1 1 1 0 0"
	for system := range s.Systems {
		strayIs(t, "itself", s, g, g, system, false)
		for times := range impl.MaxTimes + 1 {
			next, _, _ := impl.Task(s, g, system, times, 100)
			for other := range s.Systems {
				want := other != system && times > 0 && strings.Fields(changes)[system] == "1"
				strayIs(t, fmt.Sprintf("what %d does", system), s, g, next, other, want)
				strayIs(t, fmt.Sprintf("what %d does, back", system), s, next, g, other, want)
			}
		}
	}
}
