package tests

import (
	"slices"
	"testing"

	"loop.example/g00070/impl"
)

func TestPoolConstants(t *testing.T) {
	if impl.MaxWorkers != 8 || impl.MaxPicks != 2000 || impl.MoveEnd != 1 || impl.MoveBegin != 2 || impl.MaxMoves != 200 || impl.MaxMeet != 6 {
		t.Error("a constant is another one")
	}
}

func TestMovesThereAre(t *testing.T) {
	for _, c := range []struct {
		h          hall
		done, want string
	}{
		{hallOf(0, "", 1), "", ""},
		{hallOf(0, "", 8), "", ""},
		{hallOf(1, "", 1), "", "+0"},
		{hallOf(1, "", 1), "+0", "-0"},
		{hallOf(1, "", 1), "+0 -0", ""},
		{hallOf(3, "", 1), "", "+0 +1 +2"},
		{hallOf(3, "", 1), "+1", "-1"},
		{hallOf(3, "", 1), "+1 -1", "+0 +2"},
		{hallOf(3, "", 2), "+1", "-1 +0 +2"},
		{hallOf(3, "", 2), "+2 +0", "-0 -2"},
		{hallOf(3, "", 8), "+2 +0", "-0 -2 +1"},
		{hallOf(3, "", 8), "+2 +0 -2 +1", "-0 -1"},
		{hallOf(3, "0>1 1>2", 8), "", "+0"},
		{hallOf(3, "0>1 1>2", 8), "+0", "-0"},
		{hallOf(3, "0>1 1>2", 8), "+0 -0", "+1"},
		{hallOf(3, "0>1 1>2", 8), "+0 -0 +1 -1 +2", "-2"},
		{hallOf(3, "0>1 1>2", 8), "+0 -0 +1 -1 +2 -2", ""},
		{hallOf(4, "3>1 3>2 1>0 2>0", 2), "", "+3"},
		{hallOf(4, "3>1 3>2 1>0 2>0", 2), "+3 -3", "+1 +2"},
		{hallOf(4, "3>1 3>2 1>0 2>0", 2), "+3 -3 +2", "-2 +1"},
		{hallOf(4, "3>1 3>2 1>0 2>0", 2), "+3 -3 +2 -2", "+1"},
		{hallOf(4, "3>1 3>2 1>0 2>0", 2), "+3 -3 +2 -2 +1", "-1"},
		{hallOf(4, "3>1 3>2 1>0 2>0", 2), "+3 -3 +2 +1 -1 -2", "+0"},
		{hallOf(4, "3>1 3>2 1>0 2>0", 2), "+3 -3 +2 +1 -1 -2 +0 -0", ""},
		{hallOf(4, "0>3", 3), "+2 +0 -0", "-2 +1 +3"},
	} {
		c.h.movesAre(t, movesOf(c.done), c.want)
	}
}

func TestRunsByPicks(t *testing.T) {
	diamond := "3>1 3>2 1>0 2>0"
	for _, c := range []struct {
		h     hall
		picks []int
		want  string
	}{
		{hallOf(0, "", 1), nil, ""},
		{hallOf(0, "", 8), []int{1, 2, 3}, ""},
		{hallOf(1, "", 1), nil, "+0 -0"},
		{hallOf(1, "", 8), []int{7, -7, 7, -7}, "+0 -0"},
		{hallOf(3, "", 1), nil, "+0 -0 +1 -1 +2 -2"},
		{hallOf(3, "", 8), nil, "+0 -0 +1 -1 +2 -2"},
		{hallOf(3, "", 1), []int{2, 5, 1}, "+2 -2 +1 -1 +0 -0"},
		{hallOf(3, "", 2), []int{0, 1}, "+0 +1 -0 -1 +2 -2"},
		{hallOf(3, "", 2), []int{0, 1, 2}, "+0 +1 -0 -1 +2 -2"},
		{hallOf(3, "", 8), []int{0, 1, 2}, "+0 +1 +2 -0 -1 -2"},
		{hallOf(3, "", 8), []int{2, 2, 2, 2, 1, 0}, "+2 +1 +0 -2 -1 -0"},
		{hallOf(3, "", 8), []int{2, 2, 2, 2, 1, 0, 9, 9, 9}, "+2 +1 +0 -2 -1 -0"},
		{hallOf(3, "0>1 1>2", 8), []int{9, 9, 9, 9, 9, 9}, "+0 -0 +1 -1 +2 -2"},
		{hallOf(3, "2>1 1>0", 8), nil, "+2 -2 +1 -1 +0 -0"},
		{hallOf(4, diamond, 1), []int{0, 0, 1}, "+3 -3 +2 -2 +1 -1 +0 -0"},
		{hallOf(4, diamond, 2), []int{0, 0, 1, 1, 1}, "+3 -3 +2 +1 -2 -1 +0 -0"},
		{hallOf(4, diamond, 8), []int{-1, -1, -1, -1, -1}, "+3 -3 +2 +1 -2 -1 +0 -0"},
		{hallOf(8, "", 8), []int{7, 7, 7, 7, 7, 7, 7, 7}, "+7 +6 +5 +4 +3 +2 +1 +0 -0 -1 -2 -3 -4 -5 -6 -7"},
	} {
		c.h.runIs(t, c.picks, c.want)
	}
}

// Picks count for moves of which there is but one, too.
func TestPicksForOneMove(t *testing.T) {
	h := hallOf(3, "0>1 0>2", 1)
	h.runIs(t, []int{5, 5, 1, 0, 0, 0}, "+0 -0 +2 -2 +1 -1")
	h.runIs(t, []int{1, 0, 0, 1}, "+0 -0 +1 -1 +2 -2")
}

func TestWhoRuns(t *testing.T) {
	for _, c := range []struct {
		moves, want string
		widest      int
	}{
		{"", "", 0},
		{"+0", "0", 1},
		{"+0 -0", "", 1},
		{"+2 +0", "0 2", 2},
		{"+2 +0 -2", "0", 2},
		{"+2 +0 -2 +1", "0 1", 2},
		{"+2 +0 -2 +1 +3", "0 1 3", 3},
		{"+2 +0 -2 +1 +3 -0 -1", "3", 3},
		{"+0 -0 +1 -1 +2 -2", "", 1},
		{"+5 +4 +3 +2 -3 -5", "2 4", 4},
	} {
		runningIs(t, movesOf(c.moves), c.want, c.widest)
	}
}

func TestTwoThatMeet(t *testing.T) {
	for _, c := range []struct {
		h    hall
		a, b int
		want string
	}{
		{hallOf(2, "", 2), 0, 1, "+0 +1"},
		{hallOf(2, "", 2), 1, 0, "+0 +1"},
		{hallOf(6, "", 2), 5, 3, "+3 +5"},
		{hallOf(3, "2>0 2>1", 2), 0, 1, "+2 -2 +0 +1"},
		{hallOf(3, "0>1", 2), 1, 2, "+0 -0 +1 +2"},
		{hallOf(3, "0>1", 8), 2, 1, "+0 -0 +1 +2"},
		{hallOf(3, "2>0", 2), 0, 1, "+1 +2 -2 +0"},
		{hallOf(3, "2>0", 2), 1, 2, "+1 +2"},
		{hallOf(4, "0>1 2>3", 2), 1, 3, "+0 -0 +1 +2 -2 +3"},
		{hallOf(4, "0>1 2>3", 3), 3, 1, "+0 -0 +1 +2 -2 +3"},
		{hallOf(4, "1>0 3>2", 8), 0, 2, "+1 -1 +0 +3 -3 +2"},
		{hallOf(4, "3>0", 8), 0, 1, "+1 +3 -3 +0"},
		{hallOf(6, "0>1 1>2 2>3 3>4", 2), 4, 5, "+0 -0 +1 -1 +2 -2 +3 -3 +4 +5"},
		{hallOf(6, "5>4 4>3 3>2 2>1", 2), 1, 0, "+0 +5 -5 +4 -4 +3 -3 +2 -2 +1"},
		{hallOf(6, "0>4 1>4 2>5 3>5", 2), 4, 5, "+0 -0 +1 -1 +2 -2 +3 -3 +4 +5"},
		{hallOf(6, "0>4 1>4 2>5 3>5", 8), 4, 5, "+0 -0 +1 -1 +2 -2 +3 -3 +4 +5"},
		{hallOf(6, "4>0 4>1", 8), 0, 1, "+4 -4 +0 +1"},
		{hallOf(5, "0>1 2>2", 2), 1, 3, "+0 -0 +1 +3"},
	} {
		c.h.meetIs(t, c.a, c.b, c.want)
	}
}

func TestTwoThatNeverMeet(t *testing.T) {
	for _, c := range []struct {
		h    hall
		a, b int
	}{
		{hallOf(2, "0>1", 8), 0, 1},
		{hallOf(2, "0>1", 8), 1, 0},
		{hallOf(3, "0>1 1>2", 8), 0, 2},
		{hallOf(3, "0>1 1>2", 8), 2, 0},
		{hallOf(6, "5>4 4>3 3>2 2>1 1>0", 8), 0, 5},
		{hallOf(2, "0>1 1>0", 8), 0, 1},
		{hallOf(3, "0>0", 8), 0, 1},
		{hallOf(3, "0>0 0>1", 8), 1, 2},
		{hallOf(2, "", 1), 0, 1},
		{hallOf(6, "", 1), 4, 2},
	} {
		c.h.meetRefused(t, c.a, c.b)
	}
}

// Whatever Meet tells, PoolMoves and Running tell the same of it.
func TestMeetByTheOtherFunctions(t *testing.T) {
	h := hallOf(6, "0>2 1>2 3>5", 2)
	list, ok := impl.Meet(h.n, h.edges, h.workers, 5, 2)
	if !ok || !slices.Equal(impl.Running(list), []int{2, 5}) || impl.Widest(list) != 2 {
		t.Error("Meet:", movesText(list), ok)
	}
	h.movesAre(t, list, "-2 -5")
}
