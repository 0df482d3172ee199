package tests

import (
	"fmt"
	"slices"
	"strings"
	"testing"

	"loop.example/g00070/impl"
)

// Streams of every filling, and the number behind the last event, which is the
// cursor of who is new.
func TestCursorsOfWhoIsNew(t *testing.T) {
	none := impl.Sched{Reg: impl.Reg{Evts: []impl.Decl{decl("Hit", impl.KInt)}}, Text: "system a { } system b { }"}
	one := turnedBy(none, func(s *impl.Sched) { s.Systems = []impl.Sys{{Name: "b"}, {Name: "a"}} })
	other := turnedBy(none, func(s *impl.Sched) { s.Systems = []impl.Sys{{Name: "a"}} })
	for _, c := range []struct{ first, old, new, behind int }{
		{0, 0, 0, 0}, {0, 1, 0, 1}, {0, 0, 1, 1}, {0, 2, 3, 5}, {0, impl.MaxEvents, impl.MaxEvents, 400},
		{1, 0, 0, 1}, {1, 5, 0, 6}, {1, 0, 5, 6}, {1, 5, 5, 11}, {7, 200, 0, 207}, {7, 0, 200, 207},
		{1 << 31, 1, 1, 1<<31 + 2}, {1 << 32, 2, 0, 1<<32 + 2}, {1 << 32, 0, 0, 1 << 32},
		{impl.MaxFirst - 1, 0, 0, impl.MaxFirst - 1}, {impl.MaxFirst - 1, 1, 0, impl.MaxFirst},
		{impl.MaxFirst, 0, 0, impl.MaxFirst}, {impl.MaxFirst, 1, 0, impl.MaxFirst + 1}, {impl.MaxFirst, 0, 1, impl.MaxFirst + 1}, {impl.MaxFirst, 200, 200, impl.MaxFirst + 400},
	} {
		g := newGame(t, none)
		g.Streams[0] = countedFrom(c.first, c.old, c.new)
		fresh := fmt.Sprintf("%d: 0", c.behind)
		changeIs(t, "from nobody", none, one, g, fresh+" | "+fresh)
		for _, cursor := range someCursors(g.Streams[0]) {
			h := gameBy(g, func(g *impl.Game) { g.Cursors, g.Clocks.Acc = [][]int{{cursor}}, []int{5} })
			changeIs(t, "beside one", other, one, h, fmt.Sprintf("%s | %d: 5", fresh, cursor))
		}
	}
}

// Each stream has a number of its own, whatever its kind.
func TestCursorsOfSeveralStreams(t *testing.T) {
	none := impl.Sched{Reg: checkReg(), Text: schedText()}
	next := schedOf("a", "")
	for _, streams := range [][]impl.Stream{
		make([]impl.Stream, 4),
		{countedFrom(1, 0, 0), stream(2, []impl.Val{float(nan)}, nil), stream(3, nil, []impl.Val{pair(nan, inf), pair(0, 0)}), stream(4, []impl.Val{yesNo(true)}, []impl.Val{yesNo(false)})},
		{countedFrom(0, 200, 200), stream(impl.MaxFirst, nil, nil), stream(0, nil, nil), stream(9, []impl.Val{yesNo(true)}, nil)},
	} {
		g := gameBy(newGame(t, none), func(g *impl.Game) { g.Streams = streams })
		var words []string
		for _, one := range streams {
			words = append(words, fmt.Sprint(one.First+len(one.Old)+len(one.New)))
		}
		changeIs(t, "streams", none, next, g, strings.Join(words, " ")+": 0")
	}
	// a Reg without streams: nobody has a cursor
	bare := impl.Sched{Reg: impl.Reg{Comps: []impl.Decl{decl("Hp", impl.KInt)}}, Text: "system a { } system b { }", Systems: []impl.Sys{{Name: "a"}}}
	both := turnedBy(bare, func(s *impl.Sched) { s.Systems = []impl.Sys{{Name: "b"}, {Name: "a"}} })
	g := newGame(t, bare)
	g.Clocks.Acc[0] = 8
	changeIs(t, "no streams", bare, both, g, ": 0 | : 8")
}

// Cursors of who stays stay where they are: ahead of First, among the events,
// behind the last one, and at the ends of the whole numbers.
func TestCursorsOfWhoStays(t *testing.T) {
	old, g := watched()
	next := staged("", "d:", "c:", "a every=10:", "b every=7:")
	for at, one := range g.Streams {
		for _, cursor := range someCursors(one) {
			h := gameBy(g, func(g *impl.Game) { g.Cursors[1][at] = cursor })
			want := numbersText(h.Cursors[1])
			changeIs(t, "a cursor", old, next, h, "8 9 4 1: 0 | 7 -1 77 -7: 5 | 5 9 3 0: 3 | "+want+": 4")
		}
	}
	// who stays hears what it has not heard so far, and is told what it missed
	old = staged("", "a: hear Hit as h { $Score = $Score * 100 + h; }")
	next = staged("", "a: hear Hit as h { $Score = $Score * 100 + h; }", "b: hear Hit as h { $Wind = 1.0; }")
	for cursor, score := range map[int]int{leastInt: 111213, 9: 111213, 10: 111213, 11: 111213, 12: 1213, 13: 13, 14: 0, 15: 0, mostInt: 0} {
		g := newGame(t, old)
		g.Streams[0], g.Cursors[0][0] = stream(11, numbered(11, 2), numbered(13, 1)), cursor
		h := playIs(t, next, changed(t, old, next, g), beatsBy(0), "[]")
		scoreIs(t, h, score)
		if h.Cursors[0][0] != 14 || h.Cursors[1][0] != 14 || !same(h.World.Res[1], float(0)) {
			t.Error(gameText(h))
		}
	}
}

// An Acc goes over just where both have the same Every, be that 0, too.
func TestAccsByTheEvery(t *testing.T) {
	everys := []int{0, 1, 2, 9, 10, 11, impl.MaxEvery - 1, impl.MaxEvery}
	for _, before := range everys {
		for _, behind := range everys {
			for _, acc := range []int{0, 1, 9, 10, 3999999, 4000000} {
				old := staged("", fmt.Sprintf("a every=%d:", before), "b every=10:")
				next := staged("", "b every=10:", fmt.Sprintf("a every=%d:", behind))
				g := newGame(t, old)
				g.Clocks.Acc = []int{acc, 77}
				h := changed(t, old, next, g)
				if want := acc * yes(before == behind); h.Clocks.Acc[0] != 77 || h.Clocks.Acc[1] != want {
					t.Errorf("Every %d to %d, Acc %d: %v", before, behind, acc, h.Clocks.Acc)
				}
			}
		}
	}
	old, g := watched()
	for _, k := range []struct {
		what string
		tops []string
		want string
	}{
		{"all stay", []string{"a every=10:", "b every=7:", "c:"}, "3 4 5"},
		{"one turns", []string{"a every=11:", "b every=7:", "c:"}, "0 4 5"},
		{"one comes", []string{"a every=10:", "b every=7:", "c every=1:"}, "3 4 0"},
		{"one goes", []string{"a every=10:", "b:", "c:"}, "3 0 5"},
		{"all turn, come and go", []string{"a:", "b every=8:", "c every=10:"}, "0 0 0"},
		{"two trade theirs", []string{"a every=7:", "b every=10:", "c:"}, "0 0 5"},
		{"two trade places", []string{"b every=7:", "a every=10:", "c:"}, "4 3 5"},
		{"two trade names", []string{"b every=10:", "a every=7:", "c:"}, "0 0 5"},
		{"who is new has that of a place", []string{"d every=10:", "b every=7:", "e:"}, "0 4 0"},
	} {
		if h := changed(t, old, staged("", k.tops...), g); numbersText(h.Clocks.Acc) != k.want {
			t.Errorf("%s: %v, not %s", k.what, h.Clocks.Acc, k.want)
		}
	}
}

// Phase and Begun stay whatever the gates of both schedules are.
func TestPhaseAndBegunStay(t *testing.T) {
	old := staged("", "a in=3:", "b enter=2:")
	for _, next := range []impl.Sched{old, staged("", "a in=5:", "b leave=-1:", "c enter=7:"), staged("", "a:"), {Reg: checkReg()}, staged("", "x in=3:", "y every=4:")} {
		for _, phase := range []int{0, 1, -1, 2, 3, 5, 1000, leastInt, mostInt} {
			for _, begun := range []bool{false, true} {
				g := gameOf(old, runState())
				g.Clocks.Phase, g.Clocks.Begun = phase, begun
				if h := changed(t, old, next, g); h.Clocks.Phase != phase || h.Clocks.Begun != begun {
					t.Error(phase, begun, clocksText(h.Clocks))
				}
			}
		}
	}
}

// emptied is a schedule of that Reg whose text names none of its names, so that
// it is right by every right Reg.
func emptied(r impl.Reg) impl.Sched {
	return impl.Sched{Reg: r, Text: "system a { } system b { }", Systems: []impl.Sys{{Name: "a"}, {Name: "b"}}}
}

// regTurn makes another right Reg of checkReg.
type regTurn struct {
	what string
	turn func(r *impl.Reg)
}

// regTurns turn each of the three lists alike, and one list against another.
func regTurns() []regTurn {
	var turns []regTurn
	lists := []func(r *impl.Reg) *[]impl.Decl{
		func(r *impl.Reg) *[]impl.Decl { return &r.Comps },
		func(r *impl.Reg) *[]impl.Decl { return &r.Ress },
		func(r *impl.Reg) *[]impl.Decl { return &r.Evts },
	}
	for i, list := range lists {
		on := func(what string, turn func(l *[]impl.Decl)) {
			turns = append(turns, regTurn{fmt.Sprint(what, ", list ", i), func(r *impl.Reg) { turn(list(r)) }})
		}
		on("one more behind", func(l *[]impl.Decl) { *l = append(*l, decl("More", impl.KInt)) })
		on("one more ahead", func(l *[]impl.Decl) { *l = append([]impl.Decl{decl("More", impl.KInt)}, *l...) })
		on("the last one fewer", func(l *[]impl.Decl) { *l = (*l)[:len(*l)-1] })
		on("the first one fewer", func(l *[]impl.Decl) { *l = (*l)[1:] })
		on("none", func(l *[]impl.Decl) { *l = nil })
		for at := range 4 {
			on("another kind", func(l *[]impl.Decl) { (*l)[at].Kind = 1 + (*l)[at].Kind%4 })
			on("another name", func(l *[]impl.Decl) { (*l)[at].Name = "More" })
			on("a name by one letter", func(l *[]impl.Decl) { (*l)[at].Name += "s" })
			on("a name in small letters", func(l *[]impl.Decl) { (*l)[at].Name = strings.ToLower((*l)[at].Name) })
			on("two in another order", func(l *[]impl.Decl) { (*l)[at], (*l)[(at+1)%4] = (*l)[(at+1)%4], (*l)[at] })
			on("two names in another order", func(l *[]impl.Decl) { (*l)[at].Name, (*l)[(at+1)%4].Name = (*l)[(at+1)%4].Name, (*l)[at].Name })
		}
		to := lists[(i+1)%3]
		turns = append(turns,
			regTurn{fmt.Sprint("one goes over from list ", i), func(r *impl.Reg) {
				last := len(*list(r)) - 1
				*to(r) = append(*to(r), (*list(r))[last])
				*list(r) = (*list(r))[:last]
			}},
			regTurn{fmt.Sprint("lists trade places from ", i), func(r *impl.Reg) { *list(r), *to(r) = *to(r), *list(r) }})
	}
	return append(turns,
		regTurn{"columns of one kind in another order", func(r *impl.Reg) { r.Comps[0], r.Comps[4] = r.Comps[4], r.Comps[0] }},
		regTurn{"nothing at all", func(r *impl.Reg) { *r = impl.Reg{} }})
}

// Each way in which two Regs may differ, both ways about, with systems and
// without; and none, where they do not.
func TestChangeToAnotherReg(t *testing.T) {
	r := checkReg()
	one := emptied(r)
	g := newGame(t, one)
	changed(t, one, emptied(cloneReg(r)), g)
	for _, c := range regTurns() {
		q := cloneReg(r)
		c.turn(&q)
		other := emptied(q)
		h := newGame(t, other)
		changed(t, other, emptied(cloneReg(q)), h)
		changeRefused(t, c.what, one, other, g)
		changeRefused(t, c.what+", back", other, one, h)
		none, bare := impl.Sched{Reg: r}, impl.Sched{Reg: q}
		changeRefused(t, c.what+", no systems", none, bare, newGame(t, none))
		changeRefused(t, c.what+", no systems, back", bare, none, newGame(t, bare))
		changeRefused(t, c.what+", with things", one, other, gameOf(one, runState()))
	}
}

// Regs that are as long as they may be, and differ in the very last thing; and
// lists that are empty in two ways.
func TestChangeOfRegsAtTheirLimits(t *testing.T) {
	r := impl.Reg{Comps: decls("A", impl.MaxDecls), Ress: decls("B", impl.MaxDecls), Evts: decls("C", impl.MaxDecls)}
	one := emptied(r)
	g := newGame(t, one)
	changed(t, one, emptied(cloneReg(r)), g)
	for _, list := range [][]impl.Decl{r.Comps, r.Ress, r.Evts} {
		last := &list[len(list)-1]
		was := *last
		before := emptied(cloneReg(r))
		for _, d := range []impl.Decl{decl(was.Name, 1+was.Kind%4), decl("Zlast", was.Kind), decl("abcdefghijkl", was.Kind)} {
			*last = d
			other := emptied(cloneReg(r))
			changeRefused(t, "the last one of many", before, other, g)
			changeRefused(t, "the last one of many, back", other, before, newGame(t, other))
		}
		*last = was
	}
	for _, r := range []impl.Reg{{}, {Comps: decls("A", 1)}, {Ress: decls("A", 1)}, {Evts: decls("A", 1)}} {
		filled := impl.Reg{Comps: append([]impl.Decl{}, r.Comps...), Ress: append([]impl.Decl{}, r.Ress...), Evts: append([]impl.Decl{}, r.Evts...)}
		changed(t, emptied(r), emptied(filled), newGame(t, emptied(r)))
		changed(t, emptied(filled), emptied(r), newGame(t, emptied(r)))
	}
}

// Whose name is just anywhere in the old schedule, but not that of one of its
// systems, is new.
func TestNamesThatAreNoSystemsOfTheOldSchedule(t *testing.T) {
	old := turnedBy(staged("One>a", "a every=10:"), func(s *impl.Sched) {
		s.Text += "system b { } fn c() int { return 1; } system e { }"
		s.Systems[0].Sets, s.Systems[0].When = []string{"One", "Two"}, "Over"
	})
	next := staged("", "b every=10:", "c every=10:", "One every=10:", "Two every=10:", "Over every=10:", "Score every=10:", "Hit every=10:", "Hp every=10:", "A every=10:", "a every=10:")
	g := gameOf(old, runState())
	g.Clocks.Acc[0] = 6
	words := append(slices.Repeat([]string{"8 9 4 1: 0"}, 9), "6 0 77 -7: 6")
	changeIs(t, "names", old, next, g, strings.Join(words, " | "))
}

// Names that stand in both schedules at every place: each two places.
func TestPlacesOfAName(t *testing.T) {
	n := impl.MaxSys
	base := schedOf(inSets(n, "One"), "")
	g := newGame(t, base)
	for i := range n {
		g.Cursors[i], g.Clocks.Acc[i] = []int{i, 10 * i, 100 * i, -i}, 1000+i
	}
	own := strings.Split(ownText(g), " | ")
	for shift := range n {
		next := turnedBy(base, func(s *impl.Sched) { s.Systems = append(s.Systems[shift:], s.Systems[:shift]...) })
		changeIs(t, "shifted", base, next, g, strings.Join(append(slices.Clone(own[shift:]), own[:shift]...), " | "))
	}
	back := turnedBy(base, func(s *impl.Sched) { slices.Reverse(s.Systems) })
	turned := slices.Clone(own)
	slices.Reverse(turned)
	changeIs(t, "turned about", base, back, g, strings.Join(turned, " | "))
	for at, name := range schedNames[:n] {
		changeIs(t, "one of all", base, schedOf(name, ""), g, own[at])
		changeIs(t, "one of all behind one that is new", base, schedOf("q "+name, ""), g, "0 0 0 0: 0 | "+own[at])
	}
}

// What SchedOk takes is enough: neither schedule needs a plan.
func TestChangeOfSchedulesWithoutAPlan(t *testing.T) {
	right := staged("", "a: $Score = 1;", "b every=5: let q = $Score;")
	circle := staged("a>b b>a", "a: $Score = 1;", "b every=5: let q = $Score;")
	clash := strictly(right)
	all := []impl.Sched{right, circle, clash}
	planRefused(t, "a circle", circle, impl.SchCircle, 0)
	planRefused(t, "a clash", clash, impl.SchClash, 0)
	for _, old := range all {
		for _, next := range all {
			g := gameOf(old, runState())
			g.Clocks.Acc[1] = 3
			if h := changed(t, old, next, g); !sameGame(h, g) {
				t.Error(gameText(h))
			}
		}
	}
	many := schedOf(inSets(15, "One")+" p", "One>One")
	planRefused(t, "too many edges", many, impl.SchRule, 0)
	few := schedOf("p q", "")
	changeIs(t, "too many edges", few, many, newGame(t, few), strings.Join(slices.Repeat([]string{"0 0 0 0: 0"}, 16), " | "))
	changeIs(t, "from too many edges", many, few, newGame(t, many), "0 0 0 0: 0 | 0 0 0 0: 0")
}

// A world that is as full as it may be, and values that no number tells apart,
// go over as they are.
func TestChangeOfStrangeWorlds(t *testing.T) {
	r := worldReg()
	old, next := impl.Sched{Reg: r, Text: "system a { }", Systems: []impl.Sys{{Name: "a"}}}, impl.Sched{Reg: r, Text: "system b { }", Systems: []impl.Sys{{Name: "b"}}}
	tried := 0
	for _, c := range rightWorlds() {
		if fmt.Sprint(c.r) != fmt.Sprint(r) {
			continue
		}
		tried++
		g := newGame(t, old)
		g.World = c.w
		if h := changed(t, old, next, g); !sameWorld(h.World, c.w) {
			t.Error(gameText(h))
		}
	}
	if tried < 5 {
		t.Error("hardly any:", tried)
	}
	s := staged("", "a:")
	g := gameOf(s, runState())
	g.World.Res[1], g.World.Res[2] = float(negZero), pair(nan, negZero)
	g.Streams[1] = stream(4, []impl.Val{float(negZero), float(nan)}, []impl.Val{float(inf)})
	changeIs(t, "floats", s, staged("", "b:"), g, "8 7 4 1: 0")
}
