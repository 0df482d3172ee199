package tests

import (
	"testing"

	"loop.example/g00070/impl"
)

// What is no graph has no moves, no run and nobody who meets, however the rest
// is.
func TestPoolsOfNoGraphs(t *testing.T) {
	for _, g := range wrongGraphs() {
		for _, workers := range []int{1, 2, impl.MaxWorkers, 0, -1} {
			h := hall{g, workers}
			h.movesRefused(t, nil)
			h.movesRefused(t, movesOf("+0"))
			h.runRefused(t, nil)
			h.runRefused(t, []int{1})
			h.meetRefused(t, 0, 1)
			h.meetRefused(t, g.n-1, g.n-2)
		}
	}
}

// One wrong thing is enough, beside others that are right.
func TestPoolsWithOneWrongThing(t *testing.T) {
	right := hallOf(3, "0>1", 2)
	right.movesAre(t, movesOf("+0"), "-0 +2")
	right.runIs(t, []int{1}, "+2 -2 +0 -0 +1 -1")
	right.meetIs(t, 1, 2, "+0 -0 +1 +2")
	for _, wrong := range []hall{
		hallOf(3, "0>1", 0), hallOf(3, "0>1", -1), hallOf(3, "0>1", 9), hallOf(1, "0>1", 2), hallOf(-1, "0>1", 2), hallOf(17, "0>1", 2),
		hallOf(3, "0>3", 2), hallOf(3, "3>0", 2), hallOf(3, "0>1 -1>0", 2), hallOf(3, "0>1 0>-1", 2),
	} {
		wrong.movesRefused(t, nil)
		wrong.movesRefused(t, movesOf("+0"))
		wrong.runRefused(t, nil)
		wrong.runRefused(t, []int{1})
		wrong.meetRefused(t, 1, 2)
	}
	right.runRefused(t, make([]int, impl.MaxPicks+1))
	right.movesRefused(t, movesOf("+1"))
	right.movesRefused(t, make([]impl.Move, 1))
	right.movesRefused(t, make([]impl.Move, 100000))
	right.meetRefused(t, 1, 1)
	right.meetRefused(t, 1, 3)
	right.meetRefused(t, -1, 2)
	right.meetRefused(t, 0, 1)
}

// Lists that are empty are as those that are none.
func TestPoolsWithEmptyLists(t *testing.T) {
	for _, edges := range [][]impl.Edge{nil, {}} {
		for _, moves := range [][]impl.Move{nil, {}} {
			runningIs(t, moves, "", 0)
			for _, picks := range [][]int{nil, {}} {
				h := hall{graph{2, edges}, 2}
				h.movesAre(t, moves, "+0 +1")
				h.runIs(t, picks, "+0 -0 +1 -1")
				h.meetIs(t, 1, 0, "+0 +1")
			}
		}
	}
}
