package tests

import (
	"slices"
	"testing"

	"loop.example/g00070/impl"
)

func TestOrderConstants(t *testing.T) {
	if impl.MaxSys != 16 || impl.MaxEdges != 200 || impl.MaxLinear != 8 {
		t.Error("constants")
	}
}

// orderCase tells all of a small graph by hand; canon is none where there is no
// canonical order, last is the last list of all.
type orderCase struct {
	n       int
	edges   string
	canon   string
	circle  string
	ahead   string
	reduced string
	linears int
	last    string
}

func (c orderCase) check(t *testing.T) {
	t.Helper()
	g := graphOf(c.n, c.edges)
	if !impl.GraphOk(g.n, g.edges) {
		t.Error("not right:", g)
	}
	order, ok := impl.Canon(g.n, g.edges)
	if ok != (c.canon != "none") || ok && numbersText(order) != c.canon || !ok && len(order) != 0 {
		t.Error("Canon:", order, ok, "want", c.canon, "of", g)
	}
	if circle := impl.Circle(g.n, g.edges); numbersText(circle) != c.circle {
		t.Error("Circle:", circle, "want", c.circle, "of", g)
	}
	if ahead := aheadText(g); ahead != c.ahead {
		t.Error("Ahead:", ahead, "want", c.ahead, "of", g)
	}
	if reduced := impl.Reduced(g.n, g.edges); edgesText(reduced) != c.reduced {
		t.Error("Reduced:", edgesText(reduced), "want", c.reduced, "of", g)
	}
	if ok && !impl.LinearOk(g.n, g.edges, order) {
		t.Error("LinearOk of", order, "of", g)
	}
	if linears := impl.Linears(g.n, g.edges); linears != c.linears {
		t.Error("Linears:", linears, "want", c.linears, "of", g)
	}
	first, ok := impl.Linear(g.n, g.edges, 0)
	if ok != (c.linears > 0) || !slices.Equal(first, order) {
		t.Error("Linear 0:", first, ok, "want", c.canon, "of", g)
	}
	last, ok := impl.Linear(g.n, g.edges, c.linears-1)
	if ok != (c.linears > 0) || numbersText(last) != c.last {
		t.Error("Linear", c.linears-1, last, ok, "want", c.last, "of", g)
	}
	if list, ok := impl.Linear(g.n, g.edges, c.linears); ok || len(list) != 0 {
		t.Error("Linear behind the last one:", list, "of", g)
	}
}

func TestOrdersByHand(t *testing.T) {
	const fullAhead = "0>1 0>2 0>3 1>2 1>3 2>3"
	for _, c := range []orderCase{
		// no edge at all
		{0, "", "", "", "", "", 1, ""},
		{1, "", "0", "", "", "", 1, "0"},
		{2, "", "0 1", "", "", "", 2, "1 0"},
		{3, "", "0 1 2", "", "", "", 6, "2 1 0"},
		// a chain, its edges told from the last one on, and one that leads down
		{4, "0>1 1>2 2>3", "0 1 2 3", "", fullAhead, "0>1 1>2 2>3", 1, "0 1 2 3"},
		{4, "2>3 1>2 0>1", "0 1 2 3", "", fullAhead, "0>1 1>2 2>3", 1, "0 1 2 3"},
		{4, "3>2 2>1 1>0", "3 2 1 0", "", "1>0 2>0 2>1 3>0 3>1 3>2", "1>0 2>1 3>2", 1, "3 2 1 0"},
		{4, "2>0 0>3 3>1", "2 0 3 1", "", "0>1 0>3 2>0 2>1 2>3 3>1", "0>3 2>0 3>1", 1, "2 0 3 1"},
		// a diamond, and one upside down
		{4, "0>1 0>2 1>3 2>3", "0 1 2 3", "", "0>1 0>2 0>3 1>3 2>3", "0>1 0>2 1>3 2>3", 2, "0 2 1 3"},
		{4, "1>0 2>0 3>1 3>2", "3 1 2 0", "", "1>0 2>0 3>0 3>1 3>2", "1>0 2>0 3>1 3>2", 2, "3 2 1 0"},
		// parts that have nothing to do with one another
		{4, "2>0 3>1", "2 0 3 1", "", "2>0 3>1", "2>0 3>1", 6, "3 2 1 0"},
		{3, "0>2", "0 1 2", "", "0>2", "0>2", 3, "1 0 2"},
		{5, "3>0", "1 2 3 0 4", "", "3>0", "3>0", 60, "4 3 2 1 0"},
		{6, "0>1 1>2 5>4 4>3", "0 1 2 5 4 3", "", "0>1 0>2 1>2 4>3 5>3 5>4", "0>1 1>2 4>3 5>4", 20, "5 4 3 0 1 2"},
		// one that waits for all others, one for which all others wait
		{4, "1>0 2>0 3>0", "1 2 3 0", "", "1>0 2>0 3>0", "1>0 2>0 3>0", 6, "3 2 1 0"},
		{4, "0>3 2>3 1>3", "0 1 2 3", "", "0>3 1>3 2>3", "0>3 1>3 2>3", 6, "2 1 0 3"},
		{4, "3>0 3>2 3>1", "3 0 1 2", "", "3>0 3>1 3>2", "3>0 3>1 3>2", 6, "3 2 1 0"},
		// one with two to wait for, the other with one of them
		{4, "0>2 1>2 1>3", "0 1 2 3", "", "0>2 1>2 1>3", "0>2 1>2 1>3", 5, "1 3 0 2"},
		// edges that stand twice
		{3, "2>0 1>2 2>0 1>2 2>0", "1 2 0", "", "1>0 1>2 2>0", "1>2 2>0", 1, "1 2 0"},
		{3, "0>1 0>1", "0 1 2", "", "0>1", "0>1", 3, "2 0 1"},
		// edges that other edges make needless
		{3, "0>2 1>2 0>1", "0 1 2", "", "0>1 0>2 1>2", "0>1 1>2", 1, "0 1 2"},
		{4, "0>3 0>2 1>3 0>1 2>3 1>2", "0 1 2 3", "", fullAhead, "0>1 1>2 2>3", 1, "0 1 2 3"},
		{4, "0>1 1>2 2>3 0>3", "0 1 2 3", "", fullAhead, "0>1 1>2 2>3", 1, "0 1 2 3"},
		{4, "0>1 0>2 1>3 2>3 0>3 0>3", "0 1 2 3", "", "0>1 0>2 0>3 1>3 2>3", "0>1 0>2 1>3 2>3", 2, "0 2 1 3"},
	} {
		c.check(t)
	}
}

func TestCirclesByHand(t *testing.T) {
	for _, c := range []orderCase{
		// an edge to its own beginning, alone and beside others
		{1, "0>0", "none", "0", "0>0", "", 0, ""},
		{3, "2>2", "none", "2", "2>2", "", 0, ""},
		{3, "0>1 1>1 1>2", "none", "1", "0>1 0>2 1>1 1>2", "", 0, ""},
		{3, "2>2 1>1", "none", "1", "1>1 2>2", "", 0, ""},
		// two numbers, three numbers, both ways round
		{2, "0>1 1>0", "none", "0 1", "0>0 0>1 1>0 1>1", "", 0, ""},
		{2, "1>0 0>1", "none", "0 1", "0>0 0>1 1>0 1>1", "", 0, ""},
		{3, "0>1 1>2 2>0", "none", "0 1 2", "0>0 0>1 0>2 1>0 1>1 1>2 2>0 2>1 2>2", "", 0, ""},
		{3, "2>1 1>0 0>2", "none", "0 2 1", "0>0 0>1 0>2 1>0 1>1 1>2 2>0 2>1 2>2", "", 0, ""},
		{4, "3>1 1>2 2>3", "none", "1 2 3", "1>1 1>2 1>3 2>1 2>2 2>3 3>1 3>2 3>3", "", 0, ""},
		// a number outside of the circle leads to it, or waits for it
		{3, "0>1 1>2 2>1", "none", "1 2", "0>1 0>2 1>1 1>2 2>1 2>2", "", 0, ""},
		{4, "0>3 3>1 1>3 2>0", "none", "1 3", "0>1 0>3 1>1 1>3 2>0 2>1 2>3 3>1 3>3", "", 0, ""},
		{3, "0>1 1>0 1>2", "none", "0 1", "0>0 0>1 0>2 1>0 1>1 1>2", "", 0, ""},
		// edges that stand twice, in the circle and outside of it
		{2, "0>1 0>1 1>0 1>0", "none", "0 1", "0>0 0>1 1>0 1>1", "", 0, ""},
		{2, "1>1 1>1", "none", "1", "1>1", "", 0, ""},
		{4, "0>1 0>1 3>2 2>3 3>2", "none", "2 3", "0>1 2>2 2>3 3>2 3>3", "", 0, ""},
	} {
		c.check(t)
	}
}

// Which circle is told, where there are several.
func TestFirstOfTheShortestCircles(t *testing.T) {
	for _, c := range []struct {
		n           int
		edges, want string
	}{
		// of the same length: apart, with a number in common, with an edge in common
		{5, "3>4 4>3 1>2 2>1", "1 2"},
		{4, "0>3 3>0 0>2 2>0", "0 2"},
		{3, "1>2 2>1 0>2 2>0", "0 2"},
		{6, "3>4 4>5 5>3 2>1 1>0 0>2", "0 2 1"},
		{5, "0>4 4>1 1>0 0>2 2>3 3>0", "0 2 3"},
		{5, "1>2 2>4 4>1 2>3 3>1", "1 2 3"},
		{5, "2>3 3>4 4>2 3>1 1>2", "1 2 3"},
		{4, "0>1 1>2 2>0 0>2 2>1 1>0", "0 1"},
		{8, "0>7 7>1 1>6 6>0 0>2 2>5 5>3 3>0", "0 2 5 3"},
		{8, "0>7 7>2 2>5 5>0 7>1 1>6 6>0", "0 7 1 6"},
		{8, "0>7 7>1 1>6 6>0 1>3 3>0", "0 7 1 3"},
		// one that is found later, but is shorter
		{4, "0>1 1>2 2>0 1>3 3>1", "1 3"},
		{6, "0>1 1>2 2>0 4>5 5>4", "4 5"},
		{6, "0>1 1>0 5>5", "5"},
		{5, "0>1 1>2 2>3 3>0 0>4 4>0", "0 4"},
		// the least next number is none of a shortest circle
		{5, "0>1 1>2 2>3 0>3 3>4 4>0", "0 3 4"},
		{6, "0>1 1>2 0>3 3>4 4>0 4>5 3>1", "0 3 4"},
		{6, "0>2 2>1 1>5 2>3 3>0 5>0", "0 2 3"},
		// the way back leads to another number of the list first
		{5, "0>1 1>2 2>1 2>0", "1 2"},
		{5, "4>3 3>2 2>1 1>0 0>4 1>3", "1 3 2"},
	} {
		g := graphOf(c.n, c.edges)
		if circle := impl.Circle(g.n, g.edges); numbersText(circle) != c.want {
			t.Error("Circle:", circle, "want", c.want, "of", g)
		}
		if _, ok := impl.Canon(g.n, g.edges); ok {
			t.Error("a canonical order of", g)
		}
		g.asPlain(t)
	}
}

func TestLinearOkByHand(t *testing.T) {
	for _, c := range []struct {
		n     int
		edges string
		order []int
		want  bool
	}{
		{0, "", nil, true},
		{0, "", []int{}, true},
		{1, "", []int{0}, true},
		{3, "0>2", []int{0, 2, 1}, true},
		{3, "0>2", []int{0, 1, 2}, true},
		{3, "0>2", []int{1, 0, 2}, true},
		{3, "0>2", []int{2, 0, 1}, false},
		{3, "0>2", []int{2, 1, 0}, false},
		{3, "0>2", []int{1, 2, 0}, false},
		{4, "0>1 1>2 2>3", []int{0, 1, 2, 3}, true},
		{4, "0>1 1>2 2>3", []int{1, 0, 2, 3}, false},
		{4, "0>1 1>2 2>3", []int{0, 2, 1, 3}, false},
		{4, "0>1 1>2 2>3", []int{0, 1, 3, 2}, false},
		{4, "3>0 3>0 1>2", []int{3, 1, 0, 2}, true},
		{4, "3>0 3>0 1>2", []int{0, 3, 1, 2}, false},
		{2, "0>1 1>0", []int{0, 1}, false},
		{2, "0>1 1>0", []int{1, 0}, false},
		{2, "1>1", []int{0, 1}, false},
		{1, "0>0", []int{0}, false},
	} {
		if impl.LinearOk(c.n, edgesOf(c.edges), c.order) != c.want {
			t.Error("LinearOk of", c.order, "want", c.want, "of", graphOf(c.n, c.edges))
		}
	}
}

// All lists of a graph, one by one, in their order.
func TestAllListsByHand(t *testing.T) {
	for _, c := range []struct {
		n     int
		edges string
		want  []string
	}{
		{0, "", []string{""}},
		{3, "", []string{"0 1 2", "0 2 1", "1 0 2", "1 2 0", "2 0 1", "2 1 0"}},
		{3, "0>2", []string{"0 1 2", "0 2 1", "1 0 2"}},
		{3, "2>0", []string{"1 2 0", "2 0 1", "2 1 0"}},
		{4, "2>0 3>1", []string{"2 0 3 1", "2 3 0 1", "2 3 1 0", "3 1 2 0", "3 2 0 1", "3 2 1 0"}},
		{4, "0>2 1>2 1>3", []string{"0 1 2 3", "0 1 3 2", "1 0 2 3", "1 0 3 2", "1 3 0 2"}},
		{4, "0>1 0>2 1>3 2>3", []string{"0 1 2 3", "0 2 1 3"}},
		{2, "1>1", nil},
	} {
		g := graphOf(c.n, c.edges)
		if count := impl.Linears(g.n, g.edges); count != len(c.want) {
			t.Error("Linears:", count, "want", len(c.want), "of", g)
		}
		for k, want := range c.want {
			if list, ok := impl.Linear(g.n, g.edges, k); !ok || numbersText(list) != want {
				t.Error("Linear", k, list, ok, "want", want, "of", g)
			}
		}
		if list, ok := impl.Linear(g.n, g.edges, len(c.want)); ok || len(list) != 0 {
			t.Error("Linear behind the last one:", list, ok, "of", g)
		}
	}
}
