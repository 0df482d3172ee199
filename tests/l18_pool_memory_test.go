package tests

import (
	"fmt"
	"runtime"
	"slices"
	"sync"
	"testing"
	"time"

	"loop.example/g00070/impl"
)

func sameMove(a, b impl.Move) bool { return a == b }

func (s *stamps) moves(list []impl.Move) {
	stamp(s, list, func(n int) impl.Move { return impl.Move{Kind: -1, Task: n} }, func(m impl.Move) int { return m.Task })
}

// pooled is all that the chapter's functions tell, each by a call of its own.
type pooled struct {
	there, run, meet []impl.Move
	running          []int
	others           []int
}

func poolAll(h hall, done []impl.Move, picks []int) pooled {
	var a pooled
	var there, run, meet bool
	a.there, there = impl.PoolMoves(h.n, h.edges, h.workers, done)
	a.run, run = impl.PoolRun(h.n, h.edges, h.workers, picks)
	a.running = impl.Running(done)
	a.meet, meet = impl.Meet(h.n, h.edges, h.workers, h.n-1, 0)
	a.others = []int{yes(there), yes(run), yes(meet), impl.Widest(done)}
	return a
}

func (a pooled) same(b pooled) bool {
	return slices.Equal(a.there, b.there) && slices.Equal(a.run, b.run) && slices.Equal(a.meet, b.meet) && slices.Equal(a.running, b.running) && slices.Equal(a.others, b.others)
}

func (a pooled) clone() pooled {
	return pooled{slices.Clone(a.there), slices.Clone(a.run), slices.Clone(a.meet), slices.Clone(a.running), slices.Clone(a.others)}
}

// poolCase is what the functions are given.
type poolCase struct {
	hall
	done  []impl.Move
	picks []int
}

func poolCases() []poolCase {
	d := dice(187)
	list := []poolCase{{hallOf(0, "", 1), nil, nil}, {hallOf(2, "", 9), movesOf("+0"), []int{1}}, {hallOf(2, "0>1", 2), movesOf("+1"), []int{1}}, {hallOf(2, "0>1 1>0", 2), nil, []int{1}}}
	for _, g := range memoryGraphs() {
		h := hall{g, 1 + d.roll(impl.MaxWorkers)}
		done, ok := impl.PoolRun(h.n, h.edges, h.workers, anyPicks(&d, 40))
		if ok && len(done) > 0 {
			done = done[:d.roll(len(done))]
		}
		if !ok || d.roll(5) == 0 {
			done = anyMoves(&d, 30)
		}
		list = append(list, poolCase{h, done, anyPicks(&d, 40)})
	}
	return append(list, poolCase{hallOf(4, "0>1", 2), anyMoves(&d, 400), make([]int, impl.MaxPicks)}, poolCase{hallOf(4, "0>1", 2), make([]impl.Move, 300), make([]int, impl.MaxPicks+1)})
}

// Arguments with room ahead of them and behind them, full of what might be
// taken for their own, are as they were behind all calls; and whatever is
// written into one answer, the arguments and the next answer are as before.
func TestPoolsLeaveTheArgumentsAlone(t *testing.T) {
	for _, c := range poolCases() {
		want := poolAll(c.hall, c.done, c.picks).clone()
		for _, mark := range []impl.Move{begins(0), ends(0), {Kind: -1, Task: 99}} {
			var all guards
			h := hall{graph{c.n, guardIn(&all, c.edges, impl.Edge{From: 0, To: 0}, sameEdge)}, c.workers}
			done := guardIn(&all, c.done, mark, sameMove)
			picks := guardIn(&all, c.picks, 1, sameInt)
			var s stamps
			for range 3 {
				answer := poolAll(h, done, picks)
				if !answer.same(want) {
					t.Fatal("spare room is looked at, or an answer shares memory with what is kept:", h)
				}
				s.moves(answer.there)
				s.moves(answer.run)
				s.moves(answer.meet)
				s.ints(answer.running)
				if !all.kept() {
					t.Fatal("an argument was written into, or shares memory with an answer:", h)
				}
			}
			if !s.kept() {
				t.Fatal("two answers share memory:", h)
			}
		}
	}
}

// Each call alone leaves its arguments alone.
func TestEachPoolCallLeavesTheArgumentsAlone(t *testing.T) {
	for _, c := range poolCases() {
		for i, call := range []func(edges []impl.Edge, done []impl.Move, picks []int){
			func(edges []impl.Edge, done []impl.Move, picks []int) { impl.PoolMoves(c.n, edges, c.workers, done) },
			func(edges []impl.Edge, done []impl.Move, picks []int) { impl.PoolRun(c.n, edges, c.workers, picks) },
			func(edges []impl.Edge, done []impl.Move, picks []int) { impl.Running(done) },
			func(edges []impl.Edge, done []impl.Move, picks []int) { impl.Widest(done) },
			func(edges []impl.Edge, done []impl.Move, picks []int) { impl.Meet(c.n, edges, c.workers, 0, c.n-1) },
		} {
			var all guards
			call(guardIn(&all, c.edges, impl.Edge{From: 1, To: 0}, sameEdge), guardIn(&all, c.done, begins(3), sameMove), guardIn(&all, c.picks, -1, sameInt))
			if !all.kept() {
				t.Fatal("an argument was written into by call", i, "of", c.hall)
			}
		}
	}
}

// What was told may be handed in again, and changed behind that.
func TestPoolAnswersHandedInAgain(t *testing.T) {
	h := hallOf(6, "0>1 2>3 4>5", 3)
	run, _ := impl.PoolRun(h.n, h.edges, h.workers, []int{1, 2, -1, 3})
	for cut := range len(run) + 1 {
		done := slices.Clone(run[:cut])
		there, _ := impl.PoolMoves(h.n, h.edges, h.workers, done)
		running := impl.Running(done)
		wantThere, wantRunning := slices.Clone(there), slices.Clone(running)
		scribble(done, impl.Move{Kind: -7, Task: -7})
		if !slices.Equal(there, wantThere) || !slices.Equal(running, wantRunning) {
			t.Fatal("an answer shares memory with its argument behind", cut)
		}
		scribble(there, impl.Move{Kind: -7, Task: -7})
		scribble(running, -7)
		h.movesAre(t, run[:cut], movesText(wantThere))
	}
}

// goroutinesUpTo waits a while: one that has told its end may still be about to
// go.
func goroutinesUpTo(most int) bool {
	for range 1000 {
		if runtime.NumGoroutine() <= most {
			return true
		}
		time.Sleep(time.Millisecond)
	}
	return false
}

// atOnce does something some times, each in a goroutine of its own: none tells
// anything wrong, and none is left.
func atOnce(t *testing.T, times int, do func(i int) string) {
	t.Helper()
	before := runtime.NumGoroutine()
	var joined sync.WaitGroup
	for i := range times {
		joined.Go(func() {
			if wrong := do(i); wrong != "" {
				t.Error(wrong)
			}
		})
	}
	joined.Wait()
	if !goroutinesUpTo(before) {
		t.Error(runtime.NumGoroutine()-before, "are left")
	}
}

func TestNoWorkerIsLeft(t *testing.T) {
	before := runtime.NumGoroutine()
	for _, c := range poolCases() {
		poolAll(c.hall, c.done, c.picks)
		impl.PoolRun(c.n, c.edges, c.workers, make([]int, impl.MaxPicks+1))
	}
	if !goroutinesUpTo(before) {
		t.Error(runtime.NumGoroutine(), "goroutines, before it were", before)
	}
}

// The same call answers the same, however often, whatever else runs, and on
// however many processors.
func TestRunsHangOnPicksAlone(t *testing.T) {
	defer runtime.GOMAXPROCS(runtime.GOMAXPROCS(0))
	cases := poolCases()
	var want []pooled
	for _, c := range cases {
		want = append(want, poolAll(c.hall, c.done, c.picks))
	}
	for _, processors := range []int{1, 2, 8} {
		runtime.GOMAXPROCS(processors)
		for i, c := range cases {
			for range 5 {
				if !poolAll(c.hall, c.done, c.picks).same(want[i]) {
					t.Fatal("another answer of", c.hall)
				}
			}
		}
		for range 8 {
			allAtOnce(t, cases, want)
		}
	}
}

func allAtOnce(t *testing.T, cases []poolCase, want []pooled) {
	t.Helper()
	atOnce(t, len(cases), func(i int) string {
		if c := cases[i]; !poolAll(c.hall, c.done, c.picks).same(want[i]) {
			return fmt.Sprint("another answer side by side of ", c.hall)
		}
		return ""
	})
}
