package tests

import (
	"slices"
	"testing"

	"loop.example/g00070/impl"
)

// asPlainRun holds a run by these picks, and the moves behind each of its
// beginnings, against the plain answers.
func (h hall) asPlainRun(t *testing.T, picks []int) []impl.Move {
	t.Helper()
	list, ok := impl.PoolRun(h.n, h.edges, h.workers, picks)
	if want := h.plainRun(picks); !ok || !slices.Equal(list, want) {
		t.Fatal("PoolRun by", picks, "is", movesText(list), ok, "want", movesText(want), "of", h)
	}
	for i := range len(list) + 1 {
		there, ok := impl.PoolMoves(h.n, h.edges, h.workers, list[:i])
		if want := h.plainThere(list[:i]); !ok || !slices.Equal(there, want) {
			t.Fatal("PoolMoves behind", movesText(list[:i]), "is", movesText(there), ok, "want", movesText(want), "of", h)
		}
		if !slices.IsSortedFunc(there, byKindThenTask) {
			t.Fatal("PoolMoves in another order:", movesText(there), "of", h)
		}
		if running := impl.Running(list[:i]); !slices.Equal(running, plainRunning(list[:i])) {
			t.Fatal("Running of", movesText(list[:i]), "is", running)
		}
	}
	if impl.Widest(list) != plainWidest(list) {
		t.Fatal("Widest of", movesText(list), "is", impl.Widest(list), "want", plainWidest(list))
	}
	return list
}

// asPlainMeet asks for all pairs; it tells how many of them meet.
func (h hall) asPlainMeet(t *testing.T) int {
	t.Helper()
	_, straight := impl.Canon(h.n, h.edges)
	count := 0
	for a := range h.n {
		for b := range h.n {
			list, ok := impl.Meet(h.n, h.edges, h.workers, a, b)
			want, meet := h.plainMeet(a, b)
			if meet = meet && a != b; !meet {
				want = nil
			}
			if ok != meet || !slices.Equal(list, want) {
				t.Fatal("Meet of", a, b, "is", movesText(list), ok, "want", movesText(want), meet, "of", h)
			}
			apart := a != b && !impl.Ahead(h.n, h.edges, a, b) && !impl.Ahead(h.n, h.edges, b, a)
			if straight && h.workers > 1 && ok != apart {
				t.Fatal("Meet of", a, b, "is", ok, "and neither ahead", apart, "of", h)
			}
			if ok {
				count++
			}
		}
	}
	return count
}

func TestAllPoolsOfUpToThreeTasks(t *testing.T) {
	d := dice(181)
	for n := range 4 {
		for set := range 1 << (n * n) {
			for workers := 1; workers <= 4; workers++ {
				h := hall{graph{n, chosen(n, set)}, workers}
				h.asPlainMeet(t)
				h.asPlainRun(t, nil)
				list := h.asPlainRun(t, anyPicks(&d, 10))
				if _, ok := impl.Canon(n, h.edges); ok {
					h.lawfulRun(t, list)
				}
			}
		}
	}
}

// allRuns is each run that there is, found by PoolMoves, and each is told by the
// picks that lead along it.
func (h hall) allRuns(t *testing.T, done []impl.Move, picks []int) int {
	there, ok := impl.PoolMoves(h.n, h.edges, h.workers, done)
	if !ok {
		t.Fatal("PoolMoves behind", movesText(done), "of", h)
	}
	if len(there) == 0 {
		if list, ok := impl.PoolRun(h.n, h.edges, h.workers, picks); !ok || !slices.Equal(list, done) {
			t.Fatal("PoolRun by", picks, "is", movesText(list), ok, "want", movesText(done), "of", h)
		}
		h.lawfulRun(t, done)
		return 1
	}
	count := 0
	for i, m := range there {
		count += h.allRuns(t, append(slices.Clone(done), m), append(slices.Clone(picks), i))
	}
	return count
}

// How many runs there are is known: without edges, of n tasks and as many
// workers, (2n)! by 2 to the n; with one worker, all orders of the tasks.
func TestAllRunsThereAre(t *testing.T) {
	for _, c := range []struct {
		h     hall
		count int
	}{
		{hallOf(0, "", 1), 1},
		{hallOf(2, "", 1), 2},
		{hallOf(3, "", 1), 6},
		{hallOf(4, "", 1), 24},
		{hallOf(2, "", 2), 6},
		{hallOf(3, "", 3), 90},
		{hallOf(4, "", 4), 2520},
		{hallOf(4, "", 8), 2520},
		{hallOf(4, "0>1 1>2 2>3", 8), 1},
		{hallOf(3, "0>2", 1), 3},
		{hallOf(4, "0>1 0>2 1>3 2>3", 2), 6},
		{hallOf(4, "0>1 2>3", 2), 70},
	} {
		if count := c.h.allRuns(t, nil, nil); count != c.count {
			t.Error(count, "runs, want", c.count, "of", c.h)
		}
	}
}

func TestAnyPools(t *testing.T) {
	d := dice(182)
	stopped, whole, wide := 0, 0, 0
	for i := range 4000 {
		h := hall{anyGraph(&d, i%(impl.MaxSys+1)), 1 + d.roll(impl.MaxWorkers)}
		list := h.asPlainRun(t, anyPicks(&d, 50))
		if _, ok := impl.Canon(h.n, h.edges); ok {
			h.lawfulRun(t, list)
			whole++
		} else {
			stopped++
			if len(list) == 2*h.n {
				t.Fatal("a whole run with a circle:", movesText(list), "of", h)
			}
		}
		if impl.Widest(list) > 2 {
			wide++
		}
	}
	if stopped < 500 || whole < 500 || wide < 300 {
		t.Error("too few of a sort:", stopped, whole, wide)
	}
}

func TestAnyMeets(t *testing.T) {
	d := dice(183)
	met := 0
	for i := range 500 {
		h := hall{anyGraph(&d, i%(impl.MaxMeet+1)), 1 + d.roll(3)}
		met += h.asPlainMeet(t)
	}
	if met < 300 {
		t.Error("too few meet:", met)
	}
}

// Two that are not ahead of one another can run at one time in greater graphs,
// too: some picks lead there.
func TestAnyTwoCanRunAtOneTime(t *testing.T) {
	d := dice(184)
	for i := range 300 {
		g := anyGraph(&d, 2+i%(impl.MaxSys-1))
		if _, ok := impl.Canon(g.n, g.edges); !ok {
			continue
		}
		a, b := d.roll(g.n), d.roll(g.n)
		if a == b || impl.Ahead(g.n, g.edges, a, b) || impl.Ahead(g.n, g.edges, b, a) {
			continue
		}
		h := hall{g, 2}
		picks := h.picksTo(a, b)
		list, ok := impl.PoolRun(h.n, h.edges, 2, picks)
		if !ok || len(list) < len(picks) || !slices.Equal(impl.Running(list[:len(picks)]), []int{min(a, b), max(a, b)}) {
			t.Fatal("by", picks, "the run is", movesText(list), "of", h)
		}
	}
}

// picksTo does one by one whatever must have ended ahead of a or b, then begins
// both.
func (h hall) picksTo(a, b int) []int {
	var done []impl.Move
	var picks []int
	do := func(m impl.Move) {
		picks = append(picks, slices.Index(h.plainThere(done), m))
		done = append(done, m)
	}
	order, _ := h.plainCanon()
	for _, task := range order {
		behind := h.plainBehind(task)
		if slices.Contains(behind, a) || slices.Contains(behind, b) {
			do(begins(task))
			do(ends(task))
		}
	}
	do(begins(a))
	do(begins(b))
	return picks
}

// Any list of moves is done or refused as the plain answer has it.
func TestAnyMovesDone(t *testing.T) {
	d := dice(185)
	right, wrong := 0, 0
	for i := range 6000 {
		h := hall{anyGraph(&d, i%5), 1 + d.roll(3)}
		done, _ := impl.PoolRun(h.n, h.edges, h.workers, anyPicks(&d, 8))
		done = slices.Clone(done[:d.roll(len(done)+1)])
		switch d.roll(4) {
		case 0:
			done = append(done, anyMoves(&d, 2)...)
		case 1:
			if len(done) > 0 {
				done[d.roll(len(done))] = oneOf(&d, done)
			}
		case 2:
			done = anyMoves(&d, 3)
		}
		list, ok := impl.PoolMoves(h.n, h.edges, h.workers, done)
		want, wantOk := h.plainMoves(done)
		if ok != wantOk || !slices.Equal(list, want) {
			t.Fatal("PoolMoves behind", movesText(done), "is", movesText(list), ok, "want", movesText(want), wantOk, "of", h)
		}
		if ok {
			right++
		} else {
			wrong++
		}
	}
	if right < 1000 || wrong < 1000 {
		t.Error("too few of a sort:", right, wrong)
	}
}

func TestRunningOfAnyMoves(t *testing.T) {
	d := dice(186)
	for i := range 4000 {
		list := anyMoves(&d, []int{3, 8, 30, 220}[i%4])
		want, widest := plainRunning(list), 0
		if len(list) > impl.MaxMoves {
			want = nil
		} else {
			widest = plainWidest(list)
		}
		runningIs(t, list, numbersText(want), widest)
	}
}
