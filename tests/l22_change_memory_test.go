package tests

import (
	"slices"
	"testing"

	"loop.example/g00070/impl"
)

func (s *stamps) troubles(list []impl.Trouble) {
	stamp(s, list, func(n int) impl.Trouble { return trouble(-1, -1, n) }, func(w impl.Trouble) int { return w.Steps })
}

// roomyBeats has room ahead of each list and behind it, full of what might be
// played.
func (g *guards) roomyBeats(beats []impl.Beat) []impl.Beat {
	beats = slices.Clone(beats)
	for i := range beats {
		beats[i].Picks = guardIn(g, beats[i].Picks, 1, sameInt)
	}
	return guardIn(g, beats, beat(1, 1), func(a, b impl.Beat) bool {
		return a.Tick == b.Tick && a.Workers == b.Workers && sameMemory(a.Picks, b.Picks)
	})
}

// changeCase is what the functions are given.
type changeCase struct {
	old, next impl.Sched
	g         impl.Game
	beats     []impl.Beat
	what      string
}

// changesTold is all that the chapter's functions tell.
type changesTold struct {
	game, end impl.Game
	ok        bool
	troubles  []impl.Trouble
	number    int
}

func changeAll(c changeCase) changesTold {
	var a changesTold
	a.game, a.ok = impl.Change(c.old, c.next, c.g)
	a.end, a.troubles, a.number = impl.Play(c.old, c.g, c.beats)
	return a
}

func (a changesTold) same(b changesTold) bool {
	return sameGame(a.game, b.game) && sameGame(a.end, b.end) && a.ok == b.ok && slices.Equal(a.troubles, b.troubles) && a.number == b.number
}

func (s *stamps) changes(a changesTold) {
	s.game(a.game)
	s.game(a.end)
	s.troubles(a.troubles)
}

// changeCases are right and refused in each way.
func changeCases() []changeCase {
	w := newAuthor(250)
	d := &w.dice
	old, g := watched()
	list := []changeCase{
		{what: "nothing"},
		{old: old, next: old, g: g, beats: beatsBy(1, 2, 3), what: "itself"},
		{old: old, next: impl.Sched{Reg: checkReg()}, g: g, beats: make([]impl.Beat, impl.MaxBeats+1), what: "to none, too many beats"},
		{old: impl.Sched{Reg: checkReg()}, next: old, g: gameOf(impl.Sched{Reg: checkReg()}, runState()), beats: make([]impl.Beat, 3), what: "from none, wrong beats"},
		{old: old, next: old, g: strangeGame(), beats: beatsBy(1), what: "a strange game"},
		{old: old, next: emptied(worldReg()), g: g, what: "another Reg, no beats"},
	}
	for i := range 100 {
		s := anySideShow(w)
		c := changeCase{s, anyNext(w, s), anyGame(d, s), anyBeats(d, 4), "by chance"}
		if i%6 == 0 {
			marGame(d, &c.g)
		}
		if i%9 == 0 {
			c.next = cloneSched(c.next)
			oneOf(d, schedFaults)(d, &c.next)
		}
		if i%11 == 0 {
			c.old = cloneSched(c.old)
			oneOf(d, schedFaults)(d, &c.old)
		}
		if i%5 == 0 && len(c.beats) > 0 {
			c.beats[len(c.beats)-1].Workers = 0
		}
		list = append(list, c)
	}
	return list
}

// Arguments with room ahead of each list and behind it are as they were behind
// each call; and whatever is written into one answer, the arguments and the next
// answer are as before.
func TestChangesLeaveTheArgumentsAlone(t *testing.T) {
	right, stopped := map[bool]int{}, map[bool]int{}
	for _, c := range changeCases() {
		want := changeAll(c)
		right[want.ok]++
		stopped[want.number >= 0]++
		var all guards
		var marks stamps
		q := changeCase{all.roomySched(c.old), all.roomySched(c.next), all.roomyGame(c.g), all.roomyBeats(c.beats), c.what}
		for range 3 {
			have := changeAll(q)
			if !have.same(want) || !all.kept() {
				t.Fatalf("%s: %v %d, not %v %d, or an argument is written into: %v\n%s", c.what, have.ok, have.number, want.ok, want.number, all.kept(), changeText(c.old, c.next, c.g))
			}
			marks.changes(have)
			if !all.kept() {
				t.Fatalf("%s: an answer shares memory with an argument\n%s", c.what, changeText(c.old, c.next, c.g))
			}
		}
		if !marks.kept() {
			t.Fatalf("%s: two lists of answers share memory\n%s", c.what, changeText(c.old, c.next, c.g))
		}
	}
	if right[true] < 40 || right[false] < 20 || stopped[true] < 20 || stopped[false] < 40 {
		t.Error("hardly any:", right, stopped)
	}
}

// Lists of one argument may lie in one memory; an answer's may not.
func TestChangesThatShareInTheArgument(t *testing.T) {
	own := sharingGame("system a { each with A { .A = .A * 10 + 7; } emit D 5; } system b { hear E as e { $F = $F + e; } let q = 1 / 0; } system c { spawn(A = 3, B = 4); } system d { } system e { }")
	was := cloneGame(own.g)
	shuffled := turnedBy(own.s, func(s *impl.Sched) {
		s.Systems = []impl.Sys{{Name: "e"}, {Name: "c"}, {Name: "d"}, {Name: "a", Every: 1}, {Name: "b"}}
	})
	wrong := turnedBy(own.s, func(s *impl.Sched) { s.Text = "}" })
	for _, next := range []impl.Sched{own.s, shuffled, wrong} {
		var marks stamps
		for range 2 {
			h, ok := impl.Change(own.s, next, own.g)
			if want, wantOk := plainChange(own.s, next, was); ok != wantOk || !sameGame(h, want) {
				t.Fatalf("%v\n%s", ok, changeText(own.s, next, own.g))
			}
			marks.game(h)
		}
		for _, workers := range []int{1, 2, 0} {
			beats := []impl.Beat{beat(1, 1, own.nums...), {Tick: 2, Workers: workers, Picks: own.nums[1:3]}}
			h, troubles, number := impl.Play(own.s, own.g, beats)
			want, list, at := plainPlay(own.s, was, beats)
			if !sameGame(h, want) || !slices.Equal(troubles, list) || number != at {
				t.Fatalf("%d %d %v", number, at, troubles)
			}
			marks.game(h)
			marks.troubles(troubles)
		}
		if !marks.kept() || !own.kept(was) {
			t.Fatal("memory is shared")
		}
	}
}

// Empty lists that have room behind them are not those that are handed back, or
// handed on.
func TestEmptyGamesAreHandedOnInNewMemory(t *testing.T) {
	nums, vals, streams, lists := []int{7, 7, 7}, numbered(7, 3), []impl.Stream{{First: 7}, {First: 7}}, [][]int{{7}, {7}}
	hollow := impl.Game{
		World:   impl.World{Ents: impl.Ents{Gens: nums[:0], Free: nums[:0]}, Res: vals[:0]},
		Streams: streams[:0], Cursors: lists[:0], Clocks: impl.Clocks{Acc: nums[:0]},
	}
	none := impl.Sched{Text: "system a { }"}
	one := turnedBy(none, func(s *impl.Sched) { s.Systems = []impl.Sys{{Name: "a"}} })
	deeper := gameBy(hollow, func(g *impl.Game) { g.Cursors, g.Clocks.Acc = [][]int{nums[:0]}, []int{0} })
	for _, c := range []changeCase{{old: none, next: none, g: hollow}, {old: none, next: one, g: hollow}, {old: one, next: one, g: deeper}, {old: one, next: none, g: deeper}, {old: one, next: one, g: hollow}} {
		for n := range 3 {
			c.beats = beatsBy(slices.Repeat([]int{1}, n)...)
			var marks stamps
			marks.changes(changeAll(c))
			marks.changes(changeAll(c))
			if !slices.Equal(nums, []int{7, 7, 7}) || !sameVals(vals, numbered(7, 3)) || streams[0].First != 7 || lists[0][0] != 7 || !marks.kept() {
				t.Fatal("the room behind an argument is handed back")
			}
		}
	}
}

// Games that were told may be handed in again, and changed behind that.
func TestChangesHandedInAgain(t *testing.T) {
	s := staged("", "a every=1: emit Hit $Score; $Score = $Score + 1;", "b: hear Hit as h { $Wind = $Wind + real(h); }")
	next := staged("", "c: hear Hit as h { }", "b: hear Hit as h { $Wind = $Wind + real(h); }", "a every=1: emit Hit 5;")
	g := newGame(t, s)
	var told, want []impl.Game
	for range 6 {
		g, _, _ = impl.Play(s, g, beatsBy(1, 2))
		g, _ = impl.Change(s, next, g)
		told, want = append(told, g), append(want, cloneGame(g))
		g, _ = impl.Change(next, s, g)
	}
	for i, one := range told {
		if !sameGame(one, want[i]) {
			t.Fatal("a game was changed by what came behind it:", i)
		}
		if i+1 < len(told) {
			q, _ := impl.Change(next, s, one)
			q, _, _ = impl.Play(s, q, beatsBy(1, 2))
			q, _ = impl.Change(s, next, q)
			if !sameGame(q, want[i+1]) {
				t.Fatal("another game the second time:", i)
			}
		}
		var marks stamps
		marks.game(one)
	}
}

// Many calls at one time, by the same arguments, do not meet; and all goroutines
// have ended when they answer.
func TestChangesAtOneTime(t *testing.T) {
	w := newAuthor(251)
	for range 8 {
		s := anySideShow(w)
		c := changeCase{s, anyNext(w, s), anyGame(&w.dice, s), anyBeats(&w.dice, 5), "at one time"}
		want := changeAll(c)
		atOnce(t, 12, func(int) string {
			if !changeAll(c).same(want) {
				return changeText(c.old, c.next, c.g)
			}
			return ""
		})
	}
}

// Nothing is kept: other calls between two change nothing.
func TestChangesOneBehindTheOther(t *testing.T) {
	old, g := watched()
	next := staged("", "c:", "d:", "a every=10: $Score = 7;")
	other := staged("", "d every=3: let q = 1 / 0;", "c every=2: $Score = $Score + 1;")
	h := gameOf(other, runState())
	h.Clocks.Acc = []int{1, 1}
	for range 10 {
		changeIs(t, "first", old, next, g, "7 -1 77 -7: 5 | 8 9 4 1: 0 | 5 9 3 0: 3")
		changeIs(t, "second", other, next, h, "6 0 77 -7: 0 | 6 0 77 -7: 0 | 8 9 4 1: 0")
		changeRefused(t, "between", old, other, h)
		q := playIs(t, other, h, beatsBy(1, 1), "[{0 2 1}]")
		scoreIs(t, q, 1001)
		playRefused(t, "between", old, h, beatsBy(1), 0)
	}
}
