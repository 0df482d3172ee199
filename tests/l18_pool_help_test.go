package tests

import (
	"cmp"
	"fmt"
	"slices"
	"strconv"
	"strings"
	"testing"

	"loop.example/g00070/impl"
)

// movesOf reads moves such as +0 +1 -0: a task begins, a task ends.
func movesOf(text string) []impl.Move {
	var list []impl.Move
	for _, word := range strings.Fields(text) {
		task, err := strconv.Atoi(word[1:])
		kind := strings.IndexByte(" -+", word[0])
		if err != nil || kind < 1 {
			panic(word)
		}
		list = append(list, impl.Move{Kind: []int{0, impl.MoveEnd, impl.MoveBegin}[kind], Task: task})
	}
	return list
}

func movesText(list []impl.Move) string {
	var words []string
	for _, m := range list {
		switch m.Kind {
		case impl.MoveBegin:
			words = append(words, fmt.Sprintf("+%d", m.Task))
		case impl.MoveEnd:
			words = append(words, fmt.Sprintf("-%d", m.Task))
		default:
			words = append(words, fmt.Sprintf("(%d)%d", m.Kind, m.Task))
		}
	}
	return strings.Join(words, " ")
}

func byKindThenTask(a, b impl.Move) int {
	return cmp.Or(cmp.Compare(a.Kind, b.Kind), cmp.Compare(a.Task, b.Task))
}

// hall is a graph and its workers, of which the plain answers below are found
// from lists of moves alone.
type hall struct {
	graph
	workers int
}

func hallOf(n int, edges string, workers int) hall { return hall{graphOf(n, edges), workers} }

func (h hall) String() string { return fmt.Sprintf("%v, %d workers", h.graph, h.workers) }

func begins(task int) impl.Move { return impl.Move{Kind: impl.MoveBegin, Task: task} }

func ends(task int) impl.Move { return impl.Move{Kind: impl.MoveEnd, Task: task} }

func (h hall) plainReady(done []impl.Move, task int) bool {
	return !slices.Contains(done, begins(task)) && !slices.ContainsFunc(h.edges, func(e impl.Edge) bool {
		return e.To == task && !slices.Contains(done, ends(e.From))
	})
}

// plainThere is the moves that there are behind right ones.
func (h hall) plainThere(done []impl.Move) []impl.Move {
	var run, begin []impl.Move
	for task := range h.n {
		if slices.Contains(done, begins(task)) && !slices.Contains(done, ends(task)) {
			run = append(run, ends(task))
		}
		if h.plainReady(done, task) {
			begin = append(begin, begins(task))
		}
	}
	if len(run) < h.workers {
		run = append(run, begin...)
	}
	return run
}

func (h hall) plainMoves(done []impl.Move) ([]impl.Move, bool) {
	for i, m := range done {
		if !slices.Contains(h.plainThere(done[:i]), m) {
			return nil, false
		}
	}
	return h.plainThere(done), true
}

func (h hall) plainRun(picks []int) []impl.Move {
	var list []impl.Move
	for {
		there := h.plainThere(list)
		if len(there) == 0 {
			return list
		}
		pick := 0
		if len(list) < len(picks) {
			pick = picks[len(list)] % len(there)
			if pick < 0 {
				pick += len(there)
			}
		}
		list = append(list, there[pick])
	}
}

func plainRunning(moves []impl.Move) []int {
	var list []int
	for i, m := range moves {
		if m.Kind == impl.MoveBegin && !slices.Contains(moves[i+1:], ends(m.Task)) && !slices.Contains(list, m.Task) {
			list = append(list, m.Task)
		}
	}
	slices.Sort(list)
	return list
}

func plainWidest(moves []impl.Move) int {
	widest := 0
	for i := range len(moves) + 1 {
		widest = max(widest, len(plainRunning(moves[:i])))
	}
	return widest
}

// standText is what the moves to come hang on: who has begun, and who has ended.
func standText(moves []impl.Move) string {
	return movesText(slices.SortedFunc(slices.Values(moves), byKindThenTask))
}

// plainMeet has of each place that can be come to by so many moves the first way
// there, and goes on to one move more until some place is one where both run.
func (h hall) plainMeet(a, b int) ([]impl.Move, bool) {
	ways := map[string][]impl.Move{"": nil}
	for len(ways) > 0 {
		var best []impl.Move
		longer := map[string][]impl.Move{}
		for _, way := range ways {
			running := plainRunning(way)
			if slices.Contains(running, a) && slices.Contains(running, b) && (best == nil || slices.CompareFunc(way, best, byKindThenTask) < 0) {
				best = way
			}
			for _, m := range h.plainThere(way) {
				next := append(slices.Clone(way), m)
				stand := standText(next)
				if old, ok := longer[stand]; !ok || slices.CompareFunc(next, old, byKindThenTask) < 0 {
					longer[stand] = next
				}
			}
		}
		if best != nil {
			return best, true
		}
		ways = longer
	}
	return nil, false
}

func (h hall) movesAre(t *testing.T, done []impl.Move, want string) {
	t.Helper()
	if list, ok := impl.PoolMoves(h.n, h.edges, h.workers, done); !ok || movesText(list) != want {
		t.Error("PoolMoves behind", movesText(done), "is", movesText(list), ok, "want", want, "of", h)
	}
}

func (h hall) movesRefused(t *testing.T, done []impl.Move) {
	t.Helper()
	if list, ok := impl.PoolMoves(h.n, h.edges, h.workers, done); ok || len(list) != 0 {
		t.Error("PoolMoves behind", movesText(firstFew(done)), "is", movesText(list), ok, "of", h)
	}
}

func firstFew(list []impl.Move) []impl.Move { return list[:min(len(list), 40)] }

func (h hall) runIs(t *testing.T, picks []int, want string) {
	t.Helper()
	if list, ok := impl.PoolRun(h.n, h.edges, h.workers, picks); !ok || movesText(list) != want {
		t.Error("PoolRun by", picks[:min(len(picks), 40)], "is", movesText(list), ok, "want", want, "of", h)
	}
}

func (h hall) runRefused(t *testing.T, picks []int) {
	t.Helper()
	if list, ok := impl.PoolRun(h.n, h.edges, h.workers, picks); ok || len(list) != 0 {
		t.Error("PoolRun by", len(picks), "picks is", movesText(list), ok, "of", h)
	}
}

func (h hall) meetIs(t *testing.T, a, b int, want string) {
	t.Helper()
	if list, ok := impl.Meet(h.n, h.edges, h.workers, a, b); !ok || movesText(list) != want {
		t.Error("Meet of", a, b, "is", movesText(list), ok, "want", want, "of", h)
	}
}

func (h hall) meetRefused(t *testing.T, a, b int) {
	t.Helper()
	if list, ok := impl.Meet(h.n, h.edges, h.workers, a, b); ok || len(list) != 0 {
		t.Error("Meet of", a, b, "is", movesText(list), ok, "of", h)
	}
}

func runningIs(t *testing.T, moves []impl.Move, want string, widest int) {
	t.Helper()
	if list := impl.Running(moves); numbersText(list) != want {
		t.Error("Running of", movesText(firstFew(moves)), "is", list, "want", want)
	}
	if count := impl.Widest(moves); count != widest {
		t.Error("Widest of", movesText(firstFew(moves)), "is", count, "want", widest)
	}
}

// lawfulRun asks for what the chapter promises of a run of a graph that has a
// canonical order.
func (h hall) lawfulRun(t *testing.T, list []impl.Move) {
	t.Helper()
	if len(list) != 2*h.n {
		t.Fatal("a run of", len(list), "moves:", movesText(list), "of", h)
	}
	for task := range h.n {
		begin, end := slices.Index(list, begins(task)), slices.Index(list, ends(task))
		if begin < 0 || end < begin {
			t.Fatal("the task", task, "does not begin, then end:", movesText(list), "of", h)
		}
		for _, e := range h.edges {
			if e.To == task && slices.Index(list, ends(e.From)) > begin {
				t.Fatal("the task", task, "begins ahead of whom it waits for:", movesText(list), "of", h)
			}
		}
	}
	for i := range len(list) + 1 {
		if count := len(impl.Running(list[:i])); count > h.workers {
			t.Fatal(count, "run behind", movesText(list[:i]), "of", h)
		}
	}
	if len(impl.Running(list)) != 0 || impl.Widest(list) > h.workers {
		t.Fatal("Running or Widest:", impl.Running(list), impl.Widest(list), "of", h)
	}
}

// anyPick is any number, most often a small one of either sign.
func anyPick(d *dice) int {
	switch d.roll(8) {
	case 0:
		return oneOf(d, []int{leastInt, leastInt + 1, mostInt, mostInt - 1, -1 << 32, 1 << 32})
	case 1:
		return d.roll(1<<30) * (1 - 2*d.roll(2)) * (1 + d.roll(1<<30))
	}
	return d.roll(41) - 20
}

func anyPicks(d *dice, most int) []int {
	var picks []int
	for range d.roll(most + 1) {
		picks = append(picks, anyPick(d))
	}
	return picks
}

// anyMoves is any list, of tasks that come again and again.
func anyMoves(d *dice, most int) []impl.Move {
	tasks := []int{0, 1, 2, 3, d.roll(20), -1 - d.roll(3), leastInt, mostInt}
	var list []impl.Move
	for range d.roll(most + 1) {
		m := impl.Move{Kind: 1 + d.roll(2), Task: oneOf(d, tasks)}
		if d.roll(8) == 0 {
			m.Kind = oneOf(d, []int{0, 3, -1, -2, leastInt, mostInt, 1 << 32, 1<<32 + 1, 1<<32 + 2, 257, 258})
		}
		list = append(list, m)
	}
	return list
}
