package tests

import (
	"fmt"
	"runtime"
	"slices"
	"testing"

	"loop.example/g00070/impl"
)

func (s *stamps) stages(all [][]impl.Move) {
	for _, list := range all {
		s.moves(list)
	}
	stamp(s, all, func(n int) []impl.Move { return []impl.Move{{Task: n}} }, func(list []impl.Move) int { return firstOf(list).Task })
}

// sideCase is what the functions are given.
type sideCase struct {
	frameCase
	workers int
	picks   []int
	orders  [][]int
	after   impl.Game
}

// sided is all that the chapter's functions tell, each by a call of its own.
type sided struct {
	side, in impl.Frame
	moves    [][]impl.Move
	numbers  []int
}

func sideAll(c sideCase) sided {
	var a sided
	var sideCode, sideAt, inCode, inAt int
	a.side, a.moves, sideCode, sideAt = impl.FrameSide(c.s, c.g, c.tick, c.fuel, c.workers, c.picks)
	a.in, inCode, inAt = impl.FrameIn(c.s, c.g, c.tick, c.fuel, c.orders)
	a.numbers = []int{sideCode, sideAt, inCode, inAt, yes(impl.Stray(c.s, c.g, c.after, c.system))}
	return a
}

func (a sided) same(b sided) bool {
	return sameFrame(a.side, b.side) && sameFrame(a.in, b.in) && sameMoves(a.moves, b.moves) && slices.Equal(a.numbers, b.numbers)
}

// sideCases are those of the frames, with workers, picks and orders.
func sideCases() []sideCase {
	d := dice(231)
	var list []sideCase
	for i, c := range frameCases() {
		one := sideCase{frameCase: c, workers: 1 + d.roll(impl.MaxWorkers), picks: anyPicks(&d, 20), after: c.g}
		if i%10 == 0 {
			one.workers = d.roll(12) - 1
		}
		if p, code, _ := impl.MakePlan(c.s); code == impl.SchDone && len(p.Stage) > 0 {
			one.orders = make([][]int, impl.Stages(p))
			for _, system := range p.Order {
				one.orders[p.Stage[system]] = append(one.orders[p.Stage[system]], system)
			}
			if i%10 == 1 {
				slices.Reverse(one.orders[0])
			}
			one.after, _, _ = impl.Task(c.s, c.g, d.roll(len(p.Stage)), 1, 100)
		}
		list = append(list, one)
	}
	return list
}

// Arguments with room ahead of each list and behind it are as they were behind
// each call; and whatever is written into one answer, the arguments and the next
// answer are as before.
func TestSidesLeaveTheArgumentsAlone(t *testing.T) {
	met := map[int]int{}
	for _, c := range sideCases() {
		want := sideAll(c)
		met[want.numbers[0]]++
		var all guards
		var marks stamps
		q := c
		q.s, q.g, q.after = all.roomySched(c.s), all.roomyGame(c.g), all.roomyGame(c.after)
		q.picks = guardIn(&all, c.picks, 1, sameInt)
		var orders [][]int
		for _, order := range c.orders {
			orders = append(orders, guardIn(&all, order, 0, sameInt))
		}
		q.orders = guardIn(&all, orders, []int{0}, sameMemory[int])
		for range 3 {
			have := sideAll(q)
			if !have.same(want) || !all.kept() {
				t.Fatalf("%s: %v, not %v, or an argument is written into: %v\n%s", c.what, have.numbers, want.numbers, all.kept(), schedWhole(c.s))
			}
			marks.frame(have.side)
			marks.frame(have.in)
			marks.stages(have.moves)
			if !all.kept() {
				t.Fatalf("%s: an answer shares memory with an argument\n%s", c.what, schedWhole(c.s))
			}
		}
		if !marks.kept() {
			t.Fatalf("%s: two lists of answers share memory\n%s", c.what, schedWhole(c.s))
		}
	}
	if met[impl.SchDone] < 50 || met[impl.SchMany] < 20 {
		t.Error("hardly any:", met)
	}
}

// Lists of one argument may lie in one memory; an answer's may not.
func TestSidesThatShareInTheArgument(t *testing.T) {
	own := sharingGame("system a { each with A { .A = .A * 10 + 7; } emit D 5; spawn(A = 3, B = 4); } system b { each with B { .B = .B + 1; drop B; } $C = $C + 1; } system c { hear E as e { $F = $F + e; } let q = 1 / 0; }")
	s, g, nums := own.s, own.g, own.nums
	was := cloneGame(g)
	for times := range impl.MaxTimes + 1 {
		a := playOf(t, s, was, times, 100)
		b := playOf(t, s, g, times, 100)
		order := nums[2:]
		for _, picks := range [][]int{nil, nums, nums[1:3]} {
			a.side(t, 3, picks)
			b.side(t, 3, picks)
		}
		b.in(t, [][]int{order})
		if !sameFrame(a.one, b.one) {
			t.Error("shared lists have another frame")
		}
		f, moves, _, _ := impl.FrameSide(s, g, times, 100, 2, nums)
		h, _, _ := impl.FrameIn(s, g, times, 100, [][]int{order})
		refused, none, _, _ := impl.FrameSide(s, g, times, 100, 0, nums)
		turned, _, _ := impl.FrameIn(s, g, times, 100, nil)
		var marks stamps
		for _, one := range []impl.Frame{f, h, refused, turned} {
			marks.frame(one)
		}
		marks.stages(moves)
		marks.stages(none)
		if !marks.kept() || !own.kept(was) {
			t.Fatal("memory is shared")
		}
	}
}

// Games that were told may be handed in again, and changed behind that.
func TestSidesHandedInAgain(t *testing.T) {
	s := staged("a>b", "a every=1: spawn(Hp = $Score); $Score = $Score + 1; emit Hit $Score;", "b: hear Hit as h { $Wind = $Wind + real(h); }", "c: each with Hp { .Hp = .Hp + 1; }", "d: $Home = $Home + pair(1.0, 0.5);")
	g := newGame(t, s)
	d := dice(232)
	var told, want []impl.Game
	for range 8 {
		f, _, _, _ := impl.FrameSide(s, g, 2, 200, 1+d.roll(impl.MaxWorkers), anyPicks(&d, 20))
		g = f.Game
		told, want = append(told, g), append(want, cloneGame(g))
	}
	for i, one := range told {
		if !sameGame(one, want[i]) {
			t.Fatal("a game was changed by the frames behind it:", i)
		}
		if i+1 < len(told) {
			f, _, _ := impl.FrameIn(s, one, 2, 200, [][]int{{3, 0, 2}, {1}})
			if !sameGame(f.Game, want[i+1]) {
				t.Fatal("another frame the second time:", i)
			}
		}
		var marks stamps
		marks.game(one)
	}
}

// All goroutines have ended when a call answers, also where tasks fail, and
// where a call is refused.
func TestSidesLeaveNobodyBehind(t *testing.T) {
	s := staged("a>b", "a: spawn();", "b: let q = 1 / 0;", "c: loop 9000 { }", "d: $Score = 1;", "e: loop 61 { spawn(); }")
	g := newGame(t, s)
	before := runtime.NumGoroutine()
	for i := range 200 {
		impl.FrameSide(s, g, 0, 2000, 1+i%impl.MaxWorkers, []int{i, i + 1, i + 2})
		impl.FrameSide(s, g, 0, 2000, i%2*9, nil)
		impl.FrameIn(s, g, 0, 2000, [][]int{{4, 0, 3, 2}, {1}})
	}
	if !goroutinesUpTo(before) {
		t.Error(runtime.NumGoroutine()-before, "are left")
	}
}

// Many calls at one time, by the same arguments, do not meet.
func TestSidesAtOneTime(t *testing.T) {
	w := newAuthor(233)
	d := &w.dice
	for range 10 {
		s := anyShow(w)
		a := playOf(t, s, anyGame(d, s), anyTick(d), impl.MaxFuel)
		picks, orders := anyPicks(d, 30), a.anyOrders(d)
		want := a.moves(t, 3, picks)
		atOnce(t, 12, func(i int) string {
			f, moves, _, _ := impl.FrameSide(s, a.g, a.tick, a.fuel, 3, picks)
			h, _, _ := impl.FrameIn(s, a.g, a.tick, a.fuel, orders)
			if !sameFrame(f, a.one) || !sameFrame(h, a.one) || !sameMoves(moves, want) || len(s.Systems) > 0 && impl.Stray(s, a.g, a.g, 0) {
				return fmt.Sprintf("call %d:\n%s\n%v", i, frameText(f), a)
			}
			return ""
		})
	}
}

// Nothing is kept: other calls between two change nothing.
func TestSidesOneBehindTheOther(t *testing.T) {
	first := staged("", "a: $Score = $Score + 1; spawn();", "b: let q = 1 / 0;")
	second := staged("b>a", "a: emit Hit 1;", "b: $Score = 7; spawn();")
	g, h := gameOf(first, runState()), gameOf(second, runState())
	one, other := playOf(t, first, g, 0, 50), playOf(t, second, h, 0, 50)
	for range 10 {
		one.sideIs(t, 2, []int{1, 1}, "+1 +0 -0 -1")
		frameSideRefused(t, "between", second, h, 0, 50, 0, nil, impl.SchMany, 2)
		other.sideIs(t, 2, []int{1, 1}, "+1 -1 | +0 -0")
		one.inRefused(t, "between", [][]int{{1}})
		one.in(t, [][]int{{1, 0}})
		other.in(t, [][]int{{1}, {0}})
		strayIs(t, "between", first, g, other.one.Game, 1, true)
	}
}
