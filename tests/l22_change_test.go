package tests

import (
	"slices"
	"strings"
	"testing"

	"loop.example/g00070/impl"
)

// The last events of runState's streams are the numbers 7, 8, 3 and 0.
const allReadText = "8 9 4 1"

// watched is a schedule of three systems and a game behind some frames, with
// events, and with cursors and clocks that are others for each of them.
func watched() (impl.Sched, impl.Game) {
	s := staged("a>b", "a every=10: hear Hit as h { $Score = $Score + h; }", "b every=7,when=Over: spawn(Hp = 1);", "c in=2: emit Hit 3;")
	g := gameOf(s, runState())
	g.Cursors = [][]int{{5, 9, 3, 0}, {6, 10, 4, 1}, {7, -1, 77, -7}}
	g.Clocks = behind(2, 3, 4, 5)
	return s, g
}

func TestChangeForItself(t *testing.T) {
	s, g := watched()
	h := changeIs(t, "itself", s, s, g, "5 9 3 0: 3 | 6 10 4 1: 4 | 7 -1 77 -7: 5")
	if !sameGame(h, g) {
		t.Error(gameText(h))
	}
	if again := changed(t, s, s, h); !sameGame(again, g) {
		t.Error(gameText(again))
	}
	for _, s := range []impl.Sched{{}, {Reg: checkReg()}, {Reg: checkReg(), Text: "system a { }"}, gatedShow(), schedOf(inSets(impl.MaxSys, "One,Two"), "")} {
		for _, g := range []impl.Game{newGame(t, s), gameBy(newGame(t, s), func(g *impl.Game) { g.Clocks.Phase, g.Clocks.Begun = -3, true })} {
			if h := changed(t, s, s, g); !sameGame(h, g) {
				t.Error(gameText(h))
			}
		}
	}
}

// Each of these stands behind watched; what is told is the systems' own alone,
// all else stays.
func TestChangeOfTheSystems(t *testing.T) {
	old, g := watched()
	const a, b, c, fresh = "5 9 3 0: 3", "6 10 4 1: 4", "7 -1 77 -7: 5", allReadText + ": 0"
	for _, k := range []struct {
		what string
		tops []string
		want []string
	}{
		{"another order", []string{"c:", "a every=10:", "b every=7:"}, []string{c, a, b}},
		{"turned about", []string{"c:", "b every=7:", "a every=10:"}, []string{c, b, a}},
		{"one more behind", []string{"a every=10:", "b every=7:", "c:", "d:"}, []string{a, b, c, fresh}},
		{"one more ahead", []string{"d:", "a every=10:", "b every=7:", "c:"}, []string{fresh, a, b, c}},
		{"one more between", []string{"a every=10:", "d every=7:", "b every=7:", "c:"}, []string{a, fresh, b, c}},
		{"several more", []string{"d:", "a every=10:", "e every=10:", "b every=7:", "f:", "c:", "g every=5:"}, []string{fresh, a, fresh, b, fresh, c, fresh}},
		{"the first one fewer", []string{"b every=7:", "c:"}, []string{b, c}},
		{"one between fewer", []string{"a every=10:", "c:"}, []string{a, c}},
		{"the last one fewer", []string{"a every=10:", "b every=7:"}, []string{a, b}},
		{"one alone stays", []string{"b every=7:"}, []string{b}},
		{"one in the place of another", []string{"a every=10:", "d every=7:", "c:"}, []string{a, fresh, c}},
		{"all are others", []string{"x every=10:", "y every=7:", "z:"}, []string{fresh, fresh, fresh}},
		{"names of two letters", []string{"aa every=10:", "ab every=7:", "A:", "a every=10:"}, []string{fresh, fresh, fresh, a}},
		{"none", nil, nil},
	} {
		changeIs(t, k.what, old, staged("", k.tops...), g, strings.Join(k.want, " | "))
	}
}

// What else stands in a schedule has no say in what a system of one name has.
func TestChangeOfWhatSystemsAre(t *testing.T) {
	old, g := watched()
	const same = "5 9 3 0: 3 | 6 10 4 1: 4 | 7 -1 77 -7: 5"
	for what, next := range map[string]impl.Sched{
		"other texts": turnedBy(old, func(s *impl.Sched) {
			s.Text = "system c { $Wind = 1.0; } system b { } system a { each with Hp { kill; } }"
		}),
		"empty texts":       staged("a>b", "a every=10:", "b every=7,when=Over:", "c in=2:"),
		"what others do":    staged("a>b", "a every=10: spawn(Hp = 1);", "b every=7,when=Over: emit Hit 3;", "c in=2: hear Hit as h { $Score = $Score + h; }"),
		"with functions":    staged("a>b", "fn d() int { return 7; }", "a every=10: do d();", "b every=7,when=Over:", "c in=2: let q = d();"),
		"other gates":       staged("a>b", "a every=10,in=3:", "b every=7,leave=2:", "c enter=-1:"),
		"other phases":      staged("a>b", "a every=10:", "b every=7,when=Over:", "c in=-2:"),
		"no gates":          staged("a>b", "a every=10:", "b every=7:", "c:"),
		"a When":            staged("a>b", "a every=10,when=Over:", "b every=7:", "c when=Over,in=2:"),
		"no rule":           staged("", "a every=10:", "b every=7:", "c:"),
		"other rules":       staged("b>a c>b c>a", "a every=10:", "b every=7:", "c:"),
		"a circle":          staged("b>a a>b", "a every=10:", "b every=7:", "c:"),
		"strict":            strictly(old),
		"strict, it fails":  strictly(staged("", "a every=10: $Score = 1;", "b every=7: $Score = 2;", "c:")),
		"others beside":     turnedBy(old, func(s *impl.Sched) { s.Text += "system z { } fn y() int { return 1; }" }),
		"sets":              turnedBy(old, func(s *impl.Sched) { s.Systems[0].Sets, s.Systems[2].Sets = []string{"One", "Two"}, []string{"One"} }),
		"a set with a rule": turnedBy(old, func(s *impl.Sched) { s.Systems[0].Sets, s.Rules[0].Before = []string{"One"}, "One" }),
	} {
		changeIs(t, what, old, next, g, same)
		// and the same back again
		changeIs(t, what+", back", next, old, g, same)
	}
}

func TestChangeFromNoSystems(t *testing.T) {
	none := impl.Sched{Reg: checkReg()}
	g := gameOf(none, runState())
	g.Clocks = behind(-4)
	changeIs(t, "none to none", none, none, g, "")
	changeIs(t, "none to none with a text", none, impl.Sched{Reg: checkReg(), Text: "system a { }"}, g, "")
	const fresh = allReadText + ": 0"
	changeIs(t, "none to one", none, staged("", "a every=3:"), g, fresh)
	changeIs(t, "none to some", none, staged("a>b", "a:", "b every=3:", "c in=5:"), g, strings.Join([]string{fresh, fresh, fresh}, " | "))
	most := schedOf(inSets(impl.MaxSys, "One"), "")
	h := changeIs(t, "none to as many as there may be", none, most, g, strings.Join(slices.Repeat([]string{fresh}, impl.MaxSys), " | "))
	changeIs(t, "and back to none", most, none, h, "")
	if back := changed(t, most, none, h); !sameGame(back, g) {
		t.Error(gameText(back))
	}
	// who was gone comes as one who is new
	old, own := watched()
	gone := changeIs(t, "all go", old, impl.Sched{Reg: checkReg()}, own, "")
	changeIs(t, "all come again", none, old, gone, strings.Join([]string{fresh, fresh, fresh}, " | "))
}

// Of a game just begun there is nothing to be read, and nothing left.
func TestChangeOfAGameJustBegun(t *testing.T) {
	old := staged("", "a every=5: emit Hit 1;", "b: hear Hit as h { }")
	next := staged("", "c: hear Hit as h { }", "b: hear Hit as h { }", "a every=6:")
	h := changeIs(t, "just begun", old, next, newGame(t, old), "0 0 0 0: 0 | 0 0 0 0: 0 | 0 0 0 0: 0")
	if !sameGame(h, newGame(t, next)) || h.Clocks.Begun {
		t.Error(gameText(h))
	}
}

// A game behind some frames, with events that were sent in the last frame and in
// one that is not over: each field told by hand.
func TestChangeBehindSomeFrames(t *testing.T) {
	old := staged("a>b", "a every=5: emit Hit $Score; $Score = $Score + 1; spawn(Hp = $Score);", "b: hear Hit as h { $Wind = $Wind + real(h); }", "c every=4: emit Burn 0.5;")
	g := playIs(t, old, newGame(t, old), beatsBy(6, 6, 6), "[]")
	g, _, _ = impl.Task(old, g, 0, 2, 50)
	if ownText(g) != "0 0 0 0: 3 | 3 0 0 0: 0 | 0 0 0 0: 2" || g.Clocks.Phase != 2 || !g.Clocks.Begun {
		t.Fatal(gameText(g))
	}
	next := staged("d>a", "d: hear Hit as h { $Wind = $Wind + real(100 * h); }", "c every=4: emit Burn 0.25;", "a every=4:", "b:", "e every=5: hear Burn as x { }")
	h := changed(t, old, next, g)
	if got := ownText(h); got != "5 4 0 0: 0 | 0 0 0 0: 2 | 0 0 0 0: 0 | 3 0 0 0: 0 | 5 4 0 0: 0" {
		t.Error(got)
	}
	hit := stream(2, []impl.Val{whole(2)}, []impl.Val{whole(3), whole(4)})
	burn := stream(3, []impl.Val{float(0.5)}, nil)
	if !sameStream(h.Streams[0], hit) || !sameStream(h.Streams[1], burn) || !sameStream(h.Streams[2], impl.Stream{}) || len(h.Streams) != 4 {
		t.Error(h.Streams)
	}
	if !sameVals(h.World.Res, []impl.Val{whole(5), float(3), pair(0, 0), yesNo(false)}) || !slices.Equal(h.World.Ents.Gens, []int{0, 0, 0}) || len(h.World.Tables) != 1 {
		t.Error(h.World)
	}
	if !sameClocks(h.Clocks, behind(2, 0, 2, 0, 0, 0)) {
		t.Error(clocksText(h.Clocks))
	}
}

// Who is new hears what is sent from then on, be it ahead of it or behind it in
// a frame, and nothing else; who stays hears each event once.
func TestWhoIsNewHearsWhatIsSentFromThenOn(t *testing.T) {
	const sends, stays = "a: $Score = $Score + 1; emit Hit $Score;", "b: hear Hit as h { $Wind = $Wind + real(h); }"
	const comes = "c: hear Hit as h { $Home = $Home + pair(real(h), 1.0); }"
	old := staged("a>b", sends, stays)
	for _, k := range []struct {
		rules       string
		stays       float64
		comes, back impl.Val // what was heard, and how often
	}{
		{"a>b a>c", 1 + 2 + 3 + 4 + 5 + 6, pair(4+5+6, 3), pair(4+5+6+9+10, 5)},
		{"a>b c>a", 1 + 2 + 3 + 4 + 5 + 6, pair(4+5, 2), pair(4+5+9, 3)},
		{"b>a a>c", 1 + 2 + 3 + 4 + 5, pair(4+5+6, 3), pair(4+5+6+9+10, 5)},
	} {
		next := staged(k.rules, comes, sends, stays)
		g := playIs(t, old, newGame(t, old), beatsBy(1, 2, 3), "[]")
		h := playIs(t, next, changed(t, old, next, g), beatsBy(3, 2, 1), "[]")
		if !same(h.World.Res[2], k.comes) || !same(h.World.Res[1], float(k.stays)) {
			t.Errorf("%s: who is new heard %v, who stays %v", k.rules, h.World.Res[2], h.World.Res[1])
		}
		// who goes and comes again misses what is sent between
		h = playIs(t, old, changed(t, next, old, h), beatsBy(1, 1), "[]")
		h = playIs(t, next, changed(t, old, next, h), beatsBy(1, 1), "[]")
		if !same(h.World.Res[2], k.back) {
			t.Errorf("%s: who came again heard %v", k.rules, h.World.Res[2])
		}
	}
}

// Events of a frame that is not over are old, too, for who comes within it.
func TestWhoIsNewWithinAFrame(t *testing.T) {
	old := staged("", "a: emit Hit 5;")
	next := staged("", "b: hear Hit as h { $Score = $Score + h; }", "a: emit Hit 7;")
	g := playIs(t, old, newGame(t, old), beatsBy(1), "[]")
	g, _, _ = impl.Task(old, g, 0, 3, 50)
	h := changeIs(t, "within a frame", old, next, g, "4 0 0 0: 0 | 0 0 0 0: 0")
	h = playIs(t, next, h, beatsBy(1), "[]")
	scoreIs(t, h, 0)
	h = playIs(t, next, h, beatsBy(1), "[]")
	scoreIs(t, h, 7)
}

// The clock of who stays goes on where it was; that of who is new begins.
func TestClocksGoOnBehindAChange(t *testing.T) {
	old := staged("", "a every=10: $Score = $Score + 1;", "b every=10: $Score = $Score + 100;")
	next := staged("", "c every=10: $Score = $Score + 10000;", "b every=9: $Score = $Score + 100;", "a every=10: $Score = $Score + 1;")
	g := playIs(t, old, newGame(t, old), beatsBy(6, 3), "[]")
	scoreIs(t, g, 0)
	g = playIs(t, next, changed(t, old, next, g), beatsBy(1), "[]")
	scoreIs(t, g, 1)
	g = playIs(t, next, g, beatsBy(8), "[]")
	scoreIs(t, g, 101)
	g = playIs(t, next, g, beatsBy(1), "[]")
	scoreIs(t, g, 10101)
	changeIs(t, "behind", next, old, g, "0 0 0 0: 9 | 0 0 0 0: 0")
}

// The phase of the frame before goes over, for those that are new, too.
func TestPhasesGoOnBehindAChange(t *testing.T) {
	old := staged("", "a: $Score = 2;")
	next := staged("", "b leave=0: $Wind = $Wind + 1.0;", "c enter=2: $Wind = $Wind + 10.0;", "d in=2: $Wind = $Wind + 100.0;", "e enter=0: $Wind = $Wind + 1000.0;", "f leave=2: $Wind = $Wind + 10000.0;")
	g := playIs(t, old, newGame(t, old), beatsBy(0), "[]")
	h := playIs(t, next, changed(t, old, next, g), beatsBy(0), "[]")
	if !same(h.World.Res[1], float(111)) {
		t.Error("left 0, entered 2:", h.World.Res[1])
	}
	g = playIs(t, old, g, beatsBy(0), "[]")
	h = playIs(t, next, changed(t, old, next, g), beatsBy(0), "[]")
	if !same(h.World.Res[1], float(100)) {
		t.Error("in 2 before:", h.World.Res[1])
	}
	h = playIs(t, next, changed(t, old, next, newGame(t, old)), beatsBy(0), "[]")
	if !same(h.World.Res[1], float(1000)) {
		t.Error("no frame before:", h.World.Res[1])
	}
}
