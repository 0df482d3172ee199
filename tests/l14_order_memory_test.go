package tests

import (
	"slices"
	"testing"

	"loop.example/g00070/impl"
)

func sameEdge(a, b impl.Edge) bool { return a == b }

func (s *stamps) edges(list []impl.Edge) {
	stamp(s, list, func(n int) impl.Edge { return impl.Edge{From: -1, To: n} }, func(e impl.Edge) int { return e.To })
}

func memoryGraphs() []graph {
	list := []graph{{0, nil}, {1, nil}, {8, nil}, {16, nil}, graphOf(4, "0>1 1>2 2>3"), graphOf(4, "3>2 2>1 1>0 3>0"), graphOf(3, "0>1 1>2 2>0"), graphOf(1, "0>0"),
		{16, allForward(16)}, {16, row(downFrom(16)...)}, {16, ring(upTo(16)...)}, {16, padded(nil, allForward(16), impl.MaxEdges)}, {8, padded(nil, edgesOf("0>1"), impl.MaxEdges)}}
	d := dice(143)
	for i := range 300 {
		list = append(list, anyGraph(&d, i%(impl.MaxSys+1)))
	}
	for i, g := range wrongGraphs() {
		if i%97 == 0 {
			list = append(list, g)
		}
	}
	return list
}

// told is all that the chapter's functions tell of a graph and a list, each by
// a call of its own.
type told struct {
	canon, circle, linear []int
	reduced               []impl.Edge
	others                []int
}

func yes(b bool) int {
	if b {
		return 1
	}
	return 0
}

func tellAll(g graph, order []int) told {
	var a told
	var canon, linear bool
	a.canon, canon = impl.Canon(g.n, g.edges)
	a.circle = impl.Circle(g.n, g.edges)
	a.reduced = impl.Reduced(g.n, g.edges)
	a.linear, linear = impl.Linear(g.n, g.edges, 0)
	a.others = []int{yes(impl.GraphOk(g.n, g.edges)), yes(canon), yes(linear), yes(impl.LinearOk(g.n, g.edges, order)), impl.Linears(g.n, g.edges)}
	for from := range 3 {
		for to := range 3 {
			a.others = append(a.others, yes(impl.Ahead(g.n, g.edges, from, to)))
		}
	}
	return a
}

func (a told) same(b told) bool {
	return slices.Equal(a.canon, b.canon) && slices.Equal(a.circle, b.circle) && slices.Equal(a.linear, b.linear) && slices.Equal(a.reduced, b.reduced) && slices.Equal(a.others, b.others)
}

func (a told) clone() told {
	return told{slices.Clone(a.canon), slices.Clone(a.circle), slices.Clone(a.linear), slices.Clone(a.reduced), slices.Clone(a.others)}
}

func (s *stamps) told(a told) {
	s.ints(a.canon)
	s.ints(a.circle)
	s.ints(a.linear)
	s.edges(a.reduced)
}

// The edges and the list, with room ahead of them and behind them that is full
// of what might be taken for their own, are as they were behind all calls; and
// whatever is written into one answer, the argument and the next answer are as
// before.
func TestOrdersLeaveTheArgumentsAlone(t *testing.T) {
	for _, g := range memoryGraphs() {
		order, ok := impl.Canon(g.n, g.edges)
		if !ok {
			order = upTo(min(max(g.n, 0), 20))
		}
		want := tellAll(g, order).clone()
		for _, mark := range []impl.Edge{{From: 0, To: 0}, {From: 1, To: 0}, {From: -1, To: 99}} {
			var all guards
			roomy := graph{g.n, guardIn(&all, g.edges, mark, sameEdge)}
			list := guardIn(&all, order, 0, sameInt)
			var s stamps
			for range 3 {
				answer := tellAll(roomy, list)
				if !answer.same(want) {
					t.Fatal("spare room is looked at, or an answer shares memory with what is kept:", g)
				}
				s.told(answer)
				if !all.kept() {
					t.Fatal("an argument was written into, or shares memory with an answer:", g)
				}
			}
			if !s.kept() {
				t.Fatal("two answers share memory:", g)
			}
		}
	}
}

// Each call alone leaves its arguments alone.
func TestEachOrderCallLeavesTheArgumentsAlone(t *testing.T) {
	for _, g := range memoryGraphs() {
		for i, call := range []func(edges []impl.Edge, order []int){
			func(edges []impl.Edge, order []int) { impl.GraphOk(g.n, edges) },
			func(edges []impl.Edge, order []int) { impl.Canon(g.n, edges) },
			func(edges []impl.Edge, order []int) { impl.Circle(g.n, edges) },
			func(edges []impl.Edge, order []int) { impl.Ahead(g.n, edges, 0, g.n-1) },
			func(edges []impl.Edge, order []int) { impl.Reduced(g.n, edges) },
			func(edges []impl.Edge, order []int) { impl.LinearOk(g.n, edges, order) },
			func(edges []impl.Edge, order []int) { impl.Linears(g.n, edges) },
			func(edges []impl.Edge, order []int) { impl.Linear(g.n, edges, 1) },
		} {
			var all guards
			call(guardIn(&all, g.edges, impl.Edge{From: 1, To: 0}, sameEdge), guardIn(&all, downFrom(min(max(g.n, 0), 20)), 0, sameInt))
			if !all.kept() {
				t.Fatal("an argument was written into by call", i, "of", g)
			}
		}
	}
}

// What Reduced told may be handed in again, and changed behind that.
func TestAnswersHandedInAgain(t *testing.T) {
	d := dice(144)
	for i := range 200 {
		g := anyGraph(&d, 1+i%impl.MaxSys)
		few := impl.Reduced(g.n, g.edges)
		again := impl.Reduced(g.n, few)
		order, ok := impl.Canon(g.n, few)
		want, wantAgain := slices.Clone(order), slices.Clone(again)
		scribble(few, impl.Edge{From: -7, To: -7})
		if !slices.Equal(order, want) || !slices.Equal(again, wantAgain) || ok && !impl.LinearOk(g.n, again, order) {
			t.Fatal("an answer shares memory with its argument:", g)
		}
		scribble(order, -7)
		if !slices.Equal(impl.Reduced(g.n, again), wantAgain) {
			t.Fatal("two answers share memory:", g)
		}
	}
}
