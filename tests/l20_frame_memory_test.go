package tests

import (
	"slices"
	"testing"

	"loop.example/g00070/impl"
)

// roomyGame has room ahead of each list and behind it, full of what a game might
// take for its own.
func (g *guards) roomyGame(q impl.Game) impl.Game {
	state := g.roomyState(impl.State{World: q.World, Streams: q.Streams})
	var cursors [][]int
	for _, list := range q.Cursors {
		cursors = append(cursors, guardIn(g, list, 2, sameInt))
	}
	return impl.Game{
		World:   state.World,
		Streams: state.Streams,
		Cursors: guardIn(g, cursors, []int{0, 0, 0, 0}, sameMemory[int]),
		Clocks:  g.roomyClocks(q.Clocks),
	}
}

// game writes over all lists of a game, and those that have others behind these.
func (s *stamps) game(g impl.Game) {
	s.done(impl.Done{State: impl.State{World: g.World, Streams: g.Streams}})
	for _, list := range g.Cursors {
		s.ints(list)
	}
	stamp(s, g.Cursors, func(n int) []int { return []int{n} }, firstOf[int])
	s.ints(g.Clocks.Acc)
}

func (s *stamps) frame(f impl.Frame) {
	s.game(f.Game)
	stamp(s, f.Troubles, func(n int) impl.Trouble { return trouble(-1, -1, n) }, func(w impl.Trouble) int { return w.Steps })
	for _, stage := range f.Codes {
		for _, list := range stage {
			s.ints(list)
		}
		stamp(s, stage, func(n int) []int { return []int{n} }, firstOf[int])
	}
	stamp(s, f.Codes, func(n int) [][]int { return [][]int{{n}} }, func(stage [][]int) int { return firstOf(firstOf(stage)) })
}

func (s *stamps) cmds(list []impl.Cmd) { s.done(impl.Done{Cmds: list}) }

// frameCase is what the functions are given.
type frameCase struct {
	s          impl.Sched
	g          impl.Game
	system     int
	times      int
	tick, fuel int
	what       string
}

func frameCases() []frameCase {
	w := newAuthor(211)
	d := &w.dice
	list := []frameCase{{}, {tick: -1}, {g: impl.Game{Cursors: make([][]int, 3)}}, {s: staged("", "a: spawn();")}, {s: staged("a>b b>a", "a:", "b:"), times: 1}}
	for i := range 160 {
		s := anyShow(w)
		c := frameCase{s, anyGame(d, s), d.roll(len(s.Systems) + 1), d.roll(6), anyTick(d), anyFuel(d), "by chance"}
		if i%4 == 0 {
			marGame(d, &c.g)
		}
		if i%9 == 0 {
			c.s = cloneSched(s)
			oneOf(d, schedFaults)(d, &c.s)
		}
		if i%11 == 0 {
			c.tick, c.fuel = oneOf(d, []int{-1, 5, impl.MaxTick + 1}), oneOf(d, wrongFuels)
		}
		list = append(list, c)
	}
	for i, body := range tiring {
		s := staged("b>a", "a every=1: "+body, "b: spawn(Hp = 1);", "c every=2: "+tiring[(i+1)%len(tiring)])
		for times := range impl.MaxTimes + 2 {
			list = append(list, frameCase{s, gameOf(s, runState()), 0, times, times, 300, "tiring"})
		}
	}
	for i, c := range wrongStates() {
		if i%8 == 0 {
			s := impl.Sched{Reg: c.r, Text: "system a { }", Systems: []impl.Sys{{Name: "a"}}}
			list = append(list, frameCase{s, gameOf(s, c.s), 0, 1, 5, 10, c.what})
		}
	}
	return list
}

// Arguments with room ahead of each list and behind it are as they were behind
// each call; and whatever is written into one answer, the arguments and the next
// answer are as before.
func TestFramesLeaveTheArgumentsAlone(t *testing.T) {
	for _, c := range frameCases() {
		wantNew, wantOk := impl.NewGame(c.s)
		wantRight := impl.GameOk(c.s, c.g)
		wantGame, wantCmds, wantTrouble := impl.Task(c.s, c.g, c.system, c.times, c.fuel)
		wantFrame, wantCode, wantAt := impl.FrameOne(c.s, c.g, c.tick, c.fuel)
		var all guards
		var marks stamps
		s, g := all.roomySched(c.s), all.roomyGame(c.g)
		for range 3 {
			fresh, ok := impl.NewGame(s)
			if ok != wantOk || !sameGame(fresh, wantNew) || impl.GameOk(s, g) != wantRight || !all.kept() {
				t.Fatalf("%s: NewGame %v, GameOk not %v, or an argument is written into: %v\n%s", c.what, ok, wantRight, all.kept(), schedWhole(c.s))
			}
			next, cmds, wrong := impl.Task(s, g, c.system, c.times, c.fuel)
			if !sameGame(next, wantGame) || !slices.EqualFunc(cmds, wantCmds, likeCmd) || wrong != wantTrouble || !all.kept() {
				t.Fatalf("%s: Task %v, not %v, or an argument is written into: %v\n%s", c.what, wrong, wantTrouble, all.kept(), schedWhole(c.s))
			}
			f, code, at := impl.FrameOne(s, g, c.tick, c.fuel)
			if !sameFrame(f, wantFrame) || code != wantCode || at != wantAt || !all.kept() {
				t.Fatalf("%s: FrameOne %d %d, not %d %d, or an argument is written into: %v\n%s", c.what, code, at, wantCode, wantAt, all.kept(), schedWhole(c.s))
			}
			marks.game(fresh)
			marks.game(next)
			marks.cmds(cmds)
			marks.frame(f)
			if !all.kept() {
				t.Fatalf("%s: an answer shares memory with an argument\n%s", c.what, schedWhole(c.s))
			}
		}
		if !marks.kept() {
			t.Fatalf("%s: two lists of answers share memory\n%s", c.what, schedWhole(c.s))
		}
	}
}

// sharing is a game of which several lists lie in one memory, by three systems
// of that text.
type sharing struct {
	s       impl.Sched
	g       impl.Game
	nums    []int
	cursors []int
}

func sharingGame(text string) sharing {
	r := impl.Reg{
		Comps: []impl.Decl{decl("A", impl.KInt), decl("B", impl.KInt)},
		Ress:  []impl.Decl{decl("C", impl.KInt), decl("F", impl.KInt)},
		Evts:  []impl.Decl{decl("D", impl.KInt), decl("E", impl.KInt)},
	}
	events, nums, cursors := numbered(0, 6), []int{0, 1, 0, 1, 2}, []int{0, 1}
	return sharing{
		s: impl.Sched{Reg: r, Text: text, Systems: []impl.Sys{{Name: "a", Every: 1}, {Name: "b"}, {Name: "c"}}},
		g: impl.Game{
			World: impl.World{
				Ents:   impl.Ents{Gens: nums[:3]},
				Tables: []impl.Table{{Cols: nums[:2], Rows: []impl.Ent{ent(0, 0), ent(1, 1)}, Cells: [][]impl.Val{events[:2], events[:2]}}, {Cols: nums[:1], Rows: []impl.Ent{ent(2, 0)}, Cells: [][]impl.Val{events[2:3]}}},
				Res:    events[:2],
			},
			Streams: []impl.Stream{stream(0, events[:3], events[1:]), stream(2, events, events[:2])},
			Cursors: [][]int{cursors, nums[:2], cursors},
			Clocks:  impl.Clocks{Acc: nums[:3]},
		},
		nums:    nums,
		cursors: cursors,
	}
}

// kept tells whether all of it is as at first.
func (h sharing) kept(was impl.Game) bool {
	return sameGame(h.g, was) && slices.Equal(h.nums, []int{0, 1, 0, 1, 2}) && slices.Equal(h.cursors, []int{0, 1})
}

// Lists of one argument may lie in one memory; an answer's may not.
func TestGamesThatShareInTheArgument(t *testing.T) {
	h := sharingGame("system a { each with A { .A = .A * 10 + 7; $C = .A; } emit D $F; hear E as e { $F = $F + e; } spawn(A = 3, B = $F); } system b { hear D as e { emit E e; } each with B { drop B; } } system c { let q = 1 / 0; }")
	s, g := h.s, h.g
	was := cloneGame(g)
	for times := range impl.MaxTimes + 1 {
		want, list, told := taskDone(t, s, was, 0, times, 100)
		next, cmds, wrong := taskDone(t, s, g, 0, times, 100)
		if !sameGame(next, want) || !slices.EqualFunc(cmds, list, likeCmd) || wrong != told {
			t.Error("shared lists are run in another way", wrong, told)
		}
		wantFrame, f := frameDone(t, s, was, times, 100), frameDone(t, s, g, times, 100)
		if !sameFrame(f, wantFrame) || len(f.Troubles) != 1 {
			t.Error("shared lists have another frame", frameText(f))
		}
		refusedGame, _, _ := impl.Task(s, g, 3, times, 100)
		refusedFrame, _, _ := impl.FrameOne(s, g, -1, 100)
		var marks stamps
		marks.game(next)
		marks.cmds(cmds)
		marks.frame(f)
		marks.game(refusedGame)
		marks.frame(refusedFrame)
		if !marks.kept() || !h.kept(was) {
			t.Fatal("memory is shared")
		}
	}
}

// Empty lists that have room behind them are not those that are handed back.
func TestEmptyGamesAreHandedBackInNewMemory(t *testing.T) {
	nums, vals, streams := []int{7, 7, 7}, numbered(7, 3), []impl.Stream{{First: 7}, {First: 7}}
	lists, rows, tables := [][]int{{7}, {7}}, []impl.Ent{ent(7, 7)}, []impl.Table{{Cols: []int{7}}}
	hollow := impl.Game{
		World:   impl.World{Ents: impl.Ents{Gens: nums[:0], Free: nums[:0]}, Tables: tables[:0], Res: vals[:0]},
		Streams: streams[:0], Cursors: lists[:0], Clocks: impl.Clocks{Acc: nums[:0]},
	}
	deeper := gameBy(hollow, func(g *impl.Game) {
		g.World.Tables = []impl.Table{{Cols: nums[:0], Rows: rows[:0], Cells: [][]impl.Val{vals[:0]}}}
		g.Streams = []impl.Stream{{Old: vals[:0], New: vals[:0]}}
		g.Cursors = [][]int{nums[:0]}
		g.Clocks.Acc = nums[:0]
	})
	for _, g := range []impl.Game{hollow, deeper} {
		for _, s := range []impl.Sched{{}, staged("", "a:")} {
			for _, n := range []int{0, -1} {
				next, _, _ := impl.Task(s, g, n, n, 5)
				f, _, _ := impl.FrameOne(s, g, n, 5)
				var marks stamps
				marks.game(next)
				marks.frame(f)
				if !slices.Equal(nums, []int{7, 7, 7}) || !sameVals(vals, numbered(7, 3)) || streams[0].First != 7 || lists[0][0] != 7 || rows[0] != ent(7, 7) || tables[0].Cols[0] != 7 || !marks.kept() {
					t.Fatal("the room behind an argument is handed back")
				}
			}
		}
	}
}

// Games that were told may be handed in again, and changed behind that.
func TestGamesHandedInAgain(t *testing.T) {
	s := staged("a>b", "a every=1: spawn(Hp = $Score); $Score = $Score + 1; emit Hit $Score;", "b: hear Hit as h { $Wind = $Wind + real(h); } each with Hp { .Hp = .Hp + 1; }")
	g := newGame(t, s)
	var told, want []impl.Game
	for range 6 {
		f, _, _ := impl.FrameOne(s, g, 2, 200)
		g = f.Game
		told, want = append(told, g), append(want, cloneGame(g))
	}
	for i, one := range told {
		if !sameGame(one, want[i]) {
			t.Fatal("a game was changed by the frames behind it:", i)
		}
		if i+1 < len(told) {
			f, _, _ := impl.FrameOne(s, one, 2, 200)
			if !sameGame(f.Game, want[i+1]) {
				t.Fatal("another frame the second time:", i)
			}
		}
		var marks stamps
		marks.game(one)
	}
}

// Nothing is kept: other calls between two change nothing.
func TestFramesOneBehindTheOther(t *testing.T) {
	first, second := staged("", "a: $Score = $Score + 1; spawn();", "b: let q = 1 / 0;"), staged("b>a", "a: emit Hit 1;", "b: $Score = 7;")
	g, h := gameOf(first, runState()), gameOf(second, runState())
	for range 10 {
		scoreIs(t, frameIs(t, first, g, 0, 50, "[{1 2 1}]", "[[[0] []]]"), 1001)
		frameRefused(t, "between", second, h, -1, 50, impl.SchMany, 1)
		scoreIs(t, frameIs(t, second, h, 0, 50, "[]", "[[[] []]]"), 7)
		taskRefused(t, "between", first, impl.Game{}, 0, 1, 50)
		taskIs(t, first, g, 1, 3, 50, 0, trouble(1, impl.FaultZero, 1))
		scoreIs(t, taskIs(t, first, g, 0, 3, 50, 3, trouble(0, 0, 2)), 1003)
	}
}
