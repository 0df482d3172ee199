package tests

import (
	"slices"
	"testing"

	"loop.example/g00070/impl"
)

// A pick chooses by what is left of it, whatever its size and its sign.
func TestPicksOfEachSize(t *testing.T) {
	for n := 1; n <= impl.MaxSys; n++ {
		h := hall{graph{n, nil}, 1}
		for first := range n {
			for _, pick := range []int{first, first + n, first + 2*n, first - n, first - 2*n, first - 1000*n, first + 1000*n} {
				if list, ok := impl.PoolRun(n, nil, 1, []int{pick}); !ok || len(list) != 2*n || list[0] != begins(first) {
					t.Error("the pick", pick, "begins with", movesText(list), ok, "of", h)
				}
			}
		}
		for pick, want := range map[int]int{n: 0, -n: 0, -1: n - 1, 1: 1 % n, n - 1: n - 1, 1 - n: 1 % n, n + 1: 1 % n, -n - 1: n - 1, mostInt - mostInt%n: 0, leastInt - leastInt%n: 0} {
			h.runIs(t, []int{pick}, movesText(h.plainRun([]int{want})))
		}
		h.runIs(t, []int{mostInt}, movesText(h.plainRun([]int{mostInt % n})))
		h.runIs(t, []int{leastInt}, movesText(h.plainRun([]int{(leastInt%n + n) % n})))
		h.runIs(t, slices.Repeat([]int{leastInt}, 100), movesText(h.plainRun(slices.Repeat([]int{leastInt}, 100))))
		h.runIs(t, slices.Repeat([]int{mostInt}, 100), movesText(h.plainRun(slices.Repeat([]int{mostInt}, 100))))
	}
	// By 3 the least number leaves -2, the greatest 1.
	hallOf(3, "", 1).runIs(t, []int{leastInt, 0, leastInt}, "+1 -1 +0 -0 +2 -2")
	hallOf(3, "", 1).runIs(t, []int{mostInt, 0, mostInt}, "+1 -1 +2 -2 +0 -0")
	hallOf(3, "", 2).runIs(t, []int{-1, -1, -1, -2, -1, -1}, "+2 +1 -2 -1 +0 -0")
	hallOf(3, "", 2).runIs(t, []int{-3, -3, -2, -2, -2}, "+0 -0 +1 -1 +2 -2")
}

func TestAsManyPicksAsThereMayBe(t *testing.T) {
	for _, h := range []hall{hallOf(0, "", 1), hallOf(1, "", 1), hallOf(3, "2>0", 2), {graph{16, nil}, 8}, hallOf(2, "0>1 1>0", 3)} {
		for _, pick := range []int{0, 1, -1, leastInt, mostInt} {
			picks := slices.Repeat([]int{pick}, impl.MaxPicks)
			h.runIs(t, picks, movesText(h.plainRun(picks[:100])))
			h.runIs(t, picks[1:], movesText(h.plainRun(picks[:100])))
			h.runRefused(t, append(picks, pick))
			h.runRefused(t, slices.Repeat(picks, 50))
		}
	}
}

func TestWorkersFromOneToMaxWorkers(t *testing.T) {
	d := dice(180)
	for workers := 1; workers <= impl.MaxWorkers; workers++ {
		for _, edges := range []string{"", "1>0 1>2"} {
			h := hallOf(impl.MaxSys, edges, workers)
			h.movesAre(t, nil, movesText(h.plainThere(nil)))
			picks := anyPicks(&d, 40)
			h.runIs(t, picks, movesText(h.plainRun(picks)))
		}
	}
	for _, workers := range []int{0, -1, -2, -impl.MaxWorkers, impl.MaxWorkers + 1, impl.MaxWorkers + 2, 16, 64, 1 << 16, 1<<32 + 1, leastInt, leastInt + 1, mostInt} {
		for _, n := range []int{0, 1, 2, 6, impl.MaxSys} {
			h := hall{graph{n, nil}, workers}
			h.movesRefused(t, nil)
			h.runRefused(t, nil)
			h.runRefused(t, []int{1, 2})
			h.meetRefused(t, 0, 1)
			h.meetRefused(t, 1, 0)
		}
	}
}

// As many tasks run as there are workers: none begins, ready or not.
func TestAsManyTasksAsWorkers(t *testing.T) {
	for workers := 1; workers <= impl.MaxWorkers; workers++ {
		h := hall{graph{impl.MaxSys, nil}, workers}
		var done, last []impl.Move
		for task := range workers {
			there, ok := impl.PoolMoves(h.n, h.edges, h.workers, done)
			if !ok || len(there) != impl.MaxSys || there[task] != begins(task) {
				t.Error("behind", movesText(done), "there is", movesText(there), "of", h)
			}
			done, last = append(done, begins(task)), append(last, ends(task))
		}
		h.movesAre(t, done, movesText(last))
		h.movesRefused(t, append(slices.Clone(done), begins(workers)))
		done = append(done, ends(workers/2))
		if there, ok := impl.PoolMoves(h.n, h.edges, h.workers, done); !ok || len(there) != impl.MaxSys-1 || there[workers-1] != begins(workers) {
			t.Error("behind", movesText(done), "there is", movesText(there), ok, "of", h)
		}
		if list, ok := impl.PoolRun(h.n, h.edges, h.workers, slices.Repeat([]int{-1}, 40)); !ok || impl.Widest(list) != workers {
			t.Error("Widest of a run that begins first:", impl.Widest(list), "of", h)
		}
		if list, ok := impl.PoolRun(h.n, h.edges, h.workers, nil); !ok || impl.Widest(list) != 1 {
			t.Error("Widest of a run that ends first:", impl.Widest(list), "of", h)
		}
	}
}

func TestAsManyTasksAsThereMayBe(t *testing.T) {
	for n := range impl.MaxSys + 1 {
		for _, edges := range [][]impl.Edge{nil, row(upTo(n)...), row(downFrom(n)...), allForward(n)} {
			for _, workers := range []int{1, 2, impl.MaxWorkers} {
				h := hall{graph{n, edges}, workers}
				list, ok := impl.PoolRun(n, edges, workers, nil)
				if !ok {
					t.Fatal("no run of", h)
				}
				h.lawfulRun(t, list)
				h.movesAre(t, list, "")
			}
		}
	}
	for _, n := range []int{impl.MaxSys + 1, impl.MaxSys + 2, 64, -1, -2, leastInt, mostInt} {
		h := hall{graph{n, nil}, 2}
		h.movesRefused(t, nil)
		h.runRefused(t, nil)
		h.meetRefused(t, 0, 1)
	}
}

func TestEdgesThatStandTwice(t *testing.T) {
	once, twice := hallOf(3, "2>0 2>1", 2), hallOf(3, "2>0 2>1 2>0 2>0 2>1", 2)
	for _, picks := range [][]int{nil, {1, 1, 1, 1, 1, 1}, {-1, -1, -1, -1}} {
		want, _ := impl.PoolRun(once.n, once.edges, 2, picks)
		twice.runIs(t, picks, movesText(want))
	}
	twice.movesAre(t, movesOf("+2 -2"), "+0 +1")
	twice.meetIs(t, 1, 0, "+2 -2 +0 +1")
	full := hall{graph{3, padded(nil, edgesOf("2>0 2>1"), impl.MaxEdges)}, 2}
	full.movesAre(t, movesOf("+2 -2"), "+0 +1")
	full.runIs(t, nil, "+2 -2 +0 -0 +1 -1")
	full.meetIs(t, 0, 1, "+2 -2 +0 +1")
	over := hall{graph{3, padded(nil, edgesOf("2>0 2>1"), impl.MaxEdges+1)}, 2}
	over.movesRefused(t, nil)
	over.runRefused(t, nil)
	over.meetRefused(t, 0, 1)
}

// With a circle a run stops where no move is left, and that is told as a run.
func TestRunsWithACircle(t *testing.T) {
	for _, c := range []struct {
		h     hall
		picks []int
		want  string
	}{
		{hallOf(1, "0>0", 1), nil, ""},
		{hallOf(2, "0>1 1>0", 8), []int{1, 2, 3}, ""},
		{hallOf(3, "0>1 1>0", 2), nil, "+2 -2"},
		{hallOf(4, "0>1 1>2 2>1", 2), []int{1}, "+3 -3 +0 -0"},
		{hallOf(4, "0>1 1>2 2>1", 2), []int{0, 1, 1}, "+0 +3 -3 -0"},
		{hallOf(5, "0>0 0>1 1>2", 2), nil, "+3 -3 +4 -4"},
		{hallOf(5, "2>3 3>4 4>2 4>0", 2), nil, "+1 -1"},
		{hall{graph{16, ring(upTo(16)...)}, 8}, nil, ""},
	} {
		c.h.runIs(t, c.picks, c.want)
		c.h.movesAre(t, movesOf(c.want), "")
		if _, ok := impl.Canon(c.h.n, c.h.edges); ok {
			t.Error("no circle in", c.h)
		}
	}
}

func TestMovesThatThereAreNot(t *testing.T) {
	for _, c := range []struct {
		h    hall
		done string
	}{
		{hallOf(0, "", 1), "+0"},
		{hallOf(0, "", 1), "-0"},
		{hallOf(2, "", 2), "-0"},
		{hallOf(2, "", 2), "+0 -1"},
		{hallOf(2, "", 2), "+0 +0"},
		{hallOf(2, "", 2), "+0 -0 -0"},
		{hallOf(2, "", 2), "+0 -0 +0"},
		{hallOf(2, "", 2), "+0 -0 +1 -1 +0"},
		{hallOf(2, "", 1), "+0 +1"},
		{hallOf(2, "", 1), "+1 +0"},
		{hallOf(2, "", 1), "+0 +1 -0"},
		{hallOf(4, "", 3), "+0 +1 +2 +3"},
		{hallOf(2, "0>1", 2), "+1"},
		{hallOf(2, "0>1", 2), "+0 +1"},
		{hallOf(2, "0>1", 2), "+0 +1 -0"},
		{hallOf(3, "0>2 1>2", 3), "+0 -0 +2"},
		{hallOf(3, "0>2 1>2", 3), "+0 +1 -1 +2"},
		{hallOf(1, "0>0", 2), "+0"},
		{hallOf(2, "0>1 1>0", 2), "+1"},
		{hallOf(3, "0>1 1>2", 3), "+0 -0 +2"},
	} {
		c.h.movesRefused(t, movesOf(c.done))
	}
}

// A wrong move is found wherever it stands, also among right ones.
func TestOneWrongMoveInARun(t *testing.T) {
	for _, h := range []hall{hallOf(4, "3>1 3>2 1>0 2>0", 2), hallOf(3, "", 3), {graph{16, nil}, 8}} {
		list, ok := impl.PoolRun(h.n, h.edges, h.workers, []int{0, 1, 1, 2, 3, 1, 5})
		if !ok {
			t.Fatal("no run of", h)
		}
		for i := range len(list) + 1 {
			for _, kind := range []int{0, 3, -1, -2, 4, 1 << 32, 1<<32 + 1, 1<<32 + 2, leastInt, mostInt} {
				for _, task := range []int{0, 1, list[min(i, len(list)-1)].Task} {
					h.movesRefused(t, slices.Insert(slices.Clone(list), i, impl.Move{Kind: kind, Task: task}))
				}
			}
			for _, task := range noEnds(h.n) {
				if task >= 0 && task < h.n {
					continue
				}
				h.movesRefused(t, slices.Insert(slices.Clone(list), i, begins(task)))
				h.movesRefused(t, slices.Insert(slices.Clone(list), i, ends(task)))
			}
			if i < len(list) {
				h.movesRefused(t, slices.Insert(slices.Clone(list), i, list[i]))
				h.movesRefused(t, append(slices.Clone(list), list[i]))
			}
		}
		h.movesRefused(t, slices.Repeat(list, 1000))
	}
}

func TestTasksBegunOrEndedTwice(t *testing.T) {
	for _, c := range []struct {
		moves, want string
		widest      int
	}{
		{"+4 +4", "4", 1},
		{"+4 +4 -4", "", 1},
		{"+4 -4 -4", "", 1},
		{"+4 -4 +4", "4", 1},
		{"+4 -4 -4 +4", "4", 1},
		{"-4", "", 0},
		{"-4 +4", "4", 1},
		{"-4 -4 +4 -4", "", 1},
		{"+1 +2 +1 -2 +1", "1", 2},
		{"+1 +2 +1 -1 +2", "2", 2},
		{"+0 -1 +1 -0", "1", 2},
		{"+-1 +0 +-1", "-1 0", 2},
		{"+-1 +-3 --1 +5", "-3 5", 2},
	} {
		runningIs(t, movesOf(c.moves), c.want, c.widest)
	}
	runningIs(t, []impl.Move{begins(mostInt), begins(leastInt), begins(0), begins(leastInt)}, numbersText([]int{leastInt, 0, mostInt}), 3)
	runningIs(t, []impl.Move{begins(mostInt), begins(leastInt), ends(mostInt)}, numbersText([]int{leastInt}), 2)
}

func TestMovesOfNoKind(t *testing.T) {
	for _, kind := range []int{0, 3, 4, -1, -2, 1 << 32, 1<<32 + 1, 1<<32 + 2, 257, 258, leastInt, leastInt + 1, leastInt + 2, mostInt} {
		none := impl.Move{Kind: kind, Task: 1}
		runningIs(t, []impl.Move{none}, "", 0)
		runningIs(t, []impl.Move{none, begins(1)}, "1", 1)
		runningIs(t, []impl.Move{begins(1), none}, "1", 1)
		runningIs(t, []impl.Move{begins(1), ends(1), none, begins(2), none}, "2", 1)
	}
}

func TestAsManyMovesAsThereMayBe(t *testing.T) {
	var list []impl.Move
	for task := range impl.MaxMoves {
		list = append(list, begins(task))
	}
	runningIs(t, list, numbersText(upTo(impl.MaxMoves)), impl.MaxMoves)
	slices.Reverse(list)
	runningIs(t, list, numbersText(upTo(impl.MaxMoves)), impl.MaxMoves)
	for _, more := range []impl.Move{begins(0), begins(-1), ends(0), {}, {Kind: 9}} {
		runningIs(t, append(slices.Clone(list), more), "", 0)
		runningIs(t, append([]impl.Move{more}, list...), "", 0)
	}
	runningIs(t, slices.Repeat(list, 100), "", 0)
	pairs := slices.Repeat(movesOf("+7 +7 -7 +3"), impl.MaxMoves/4)
	runningIs(t, pairs, "3", 2)
	runningIs(t, append(pairs, ends(3)), "", 0)
	runningIs(t, make([]impl.Move, impl.MaxMoves), "", 0)
	runningIs(t, make([]impl.Move, impl.MaxMoves+1), "", 0)
}

func TestMeetOfAsManyAsThereMayBe(t *testing.T) {
	for n := 2; n <= impl.MaxSys; n++ {
		for _, edges := range [][]impl.Edge{nil, {{From: 0, To: n - 1}}} {
			h := hall{graph{n, edges}, 2}
			if n > impl.MaxMeet {
				h.meetRefused(t, 0, 1)
				h.meetRefused(t, n-1, n-2)
				continue
			}
			want, ok := h.plainMeet(n-2, n-1)
			if ok {
				h.meetIs(t, n-2, n-1, movesText(want))
			} else {
				h.meetRefused(t, n-2, n-1)
			}
		}
	}
	hallOf(impl.MaxMeet, "0>5", 2).meetIs(t, 4, 5, "+0 -0 +4 +5")
	hallOf(impl.MaxMeet+1, "0>5", 2).meetRefused(t, 4, 5)
}

func TestMeetOfNoTwo(t *testing.T) {
	for n := range impl.MaxMeet + 1 {
		for workers := 1; workers <= impl.MaxWorkers; workers++ {
			h := hall{graph{n, nil}, workers}
			for a := range n {
				h.meetRefused(t, a, a)
				for _, none := range noEnds(n) {
					if none < 0 || none >= n {
						h.meetRefused(t, a, none)
						h.meetRefused(t, none, a)
						h.meetRefused(t, none, none)
						h.meetRefused(t, none, -1)
					}
				}
				for b := range n {
					if workers == 1 {
						h.meetRefused(t, a, b)
					} else if a != b {
						h.meetIs(t, a, b, movesText([]impl.Move{begins(min(a, b)), begins(max(a, b))}))
					}
				}
			}
		}
	}
}
