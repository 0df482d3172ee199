package tests

import (
	"slices"
	"testing"

	"loop.example/g00070/impl"
)

// A chain of each number of numbers, upwards and downwards: each is ahead of
// all that come behind it, by one edge or by all of them, and of nobody else.
func TestChainsOfEachLength(t *testing.T) {
	for n := range impl.MaxSys + 1 {
		for _, list := range [][]int{upTo(n), downFrom(n)} {
			g := graph{n, row(list...)}
			if order, ok := impl.Canon(n, g.edges); !ok || !slices.Equal(order, list) {
				t.Error("Canon:", order, ok, "of", g)
			}
			if circle := impl.Circle(n, g.edges); len(circle) != 0 {
				t.Error("Circle:", circle, "of", g)
			}
			for i, a := range list {
				for j, b := range list {
					if impl.Ahead(n, g.edges, a, b) != (i < j) {
						t.Error("Ahead:", a, b, "of", g)
					}
				}
			}
			if !impl.LinearOk(n, g.edges, list) || n > 1 && impl.LinearOk(n, g.edges, slices.Concat(list[1:], list[:1])) {
				t.Error("LinearOk of", g)
			}
			g.asPlain(t)
			reduced := slices.Clone(g.edges)
			slices.SortFunc(reduced, func(a, b impl.Edge) int { return a.From - b.From })
			if few := impl.Reduced(n, g.edges); !slices.Equal(few, reduced) {
				t.Error("Reduced:", edgesText(few), "of", g)
			}
		}
	}
}

// Without edges no number is ahead of any, and all lists are right.
func TestGraphsWithoutEdges(t *testing.T) {
	count := 1
	for n := range impl.MaxSys + 1 {
		for _, edges := range [][]impl.Edge{nil, {}} {
			if !impl.GraphOk(n, edges) {
				t.Error("not right:", n)
			}
			if order, ok := impl.Canon(n, edges); !ok || !slices.Equal(order, upTo(n)) {
				t.Error("Canon:", n, order, ok)
			}
			if circle, few := impl.Circle(n, edges), impl.Reduced(n, edges); len(circle) != 0 || len(few) != 0 {
				t.Error("Circle, Reduced:", n, circle, few)
			}
			if text := aheadText(graph{n, edges}); text != "" {
				t.Error("Ahead:", n, text)
			}
			if !impl.LinearOk(n, edges, upTo(n)) || !impl.LinearOk(n, edges, downFrom(n)) {
				t.Error("LinearOk:", n)
			}
			want := -1
			if n <= impl.MaxLinear {
				want = count
			}
			if got := impl.Linears(n, edges); got != want {
				t.Error("Linears:", n, got, "want", want)
			}
		}
		count *= n + 1
	}
}

// Circles of every length, as the numbers rise and fall, alone and with a
// number outside that leads to them.
func TestCirclesOfEachLength(t *testing.T) {
	for n := 1; n <= impl.MaxSys; n++ {
		up := graph{n, ring(upTo(n)...)}
		down := graph{n, ring(downFrom(n)...)}
		if circle := impl.Circle(n, up.edges); !slices.Equal(circle, upTo(n)) {
			t.Error("upwards", n, circle)
		}
		want := append([]int{0}, downFrom(n)[:n-1]...)
		if circle := impl.Circle(n, down.edges); !slices.Equal(circle, want) {
			t.Error("downwards", n, circle)
		}
		for _, g := range []graph{up, down} {
			if order, ok := impl.Canon(n, g.edges); ok || len(order) != 0 {
				t.Error("Canon:", order, "of", g)
			}
			for a := range n {
				for b := range n {
					if !impl.Ahead(n, g.edges, a, b) {
						t.Error("Ahead:", a, b, "of", g)
					}
				}
			}
			if few := impl.Reduced(n, g.edges); len(few) != 0 || impl.LinearOk(n, g.edges, upTo(n)) {
				t.Error("Reduced, LinearOk:", edgesText(few), "of", g)
			}
			g.asPlain(t)
		}
		if n == impl.MaxSys {
			continue
		}
		last := impl.MaxSys - n
		behind := upTo(impl.MaxSys)[last:]
		g := graph{impl.MaxSys, append(ring(behind...), row(upTo(last+1)...)...)}
		if circle := impl.Circle(g.n, g.edges); !slices.Equal(circle, behind) {
			t.Error("behind others", n, circle)
		}
		if !impl.Ahead(g.n, g.edges, 0, impl.MaxSys-1) || impl.Ahead(g.n, g.edges, 0, 0) || impl.Ahead(g.n, g.edges, last, last-1) || !impl.Ahead(g.n, g.edges, last, last) {
			t.Error("Ahead, behind others", n)
		}
	}
}

// A circle of all numbers, and a shorter one within it or at its end.
func TestShorterCirclesWithinTheGreatest(t *testing.T) {
	const most = impl.MaxSys
	all := ring(upTo(most)...)
	for length := 1; length < most; length++ {
		for first := 0; first+length <= most; first++ {
			list := upTo(most)[first : first+length]
			g := graph{most, append(slices.Clone(all), impl.Edge{From: list[length-1], To: first})}
			if circle := impl.Circle(most, g.edges); !slices.Equal(circle, list) {
				t.Error("Circle:", circle, "want", list)
			}
			if _, ok := impl.Canon(most, g.edges); ok {
				t.Error("a canonical order of", g)
			}
		}
	}
}

// Each number alone with an edge to itself, among numbers in a chain.
func TestEachNumberInACircleOfItsOwn(t *testing.T) {
	for n := 1; n <= impl.MaxSys; n++ {
		for number := range n {
			own := impl.Edge{From: number, To: number}
			for _, edges := range [][]impl.Edge{{own}, {own, own}, append(row(upTo(n)...), own), append([]impl.Edge{own}, row(downFrom(n)...)...)} {
				if !impl.GraphOk(n, edges) {
					t.Error("not right:", graph{n, edges})
				}
				if circle := impl.Circle(n, edges); !slices.Equal(circle, []int{number}) {
					t.Error("Circle:", circle, "of", graph{n, edges})
				}
				if order, ok := impl.Canon(n, edges); ok || len(order) != 0 {
					t.Error("Canon:", order, "of", graph{n, edges})
				}
				for other := range n {
					if impl.Ahead(n, edges, other, other) != (other == number) {
						t.Error("Ahead of itself:", other, "of", graph{n, edges})
					}
				}
				if few := impl.Reduced(n, edges); len(few) != 0 {
					t.Error("Reduced:", edgesText(few), "of", graph{n, edges})
				}
				if impl.LinearOk(n, edges, upTo(n)) || impl.LinearOk(n, edges, downFrom(n)) {
					t.Error("LinearOk of", graph{n, edges})
				}
				if n <= impl.MaxLinear && impl.Linears(n, edges) != 0 {
					t.Error("Linears of", graph{n, edges})
				}
				if list, ok := impl.Linear(n, edges, 0); ok || len(list) != 0 {
					t.Error("Linear:", list, "of", graph{n, edges})
				}
			}
		}
	}
}

// Of a pair with an edge and a longer way as well the edge is needless, however
// long that way is.
func TestEdgesBesideALongerWay(t *testing.T) {
	for n := 3; n <= impl.MaxSys; n++ {
		chain := row(upTo(n)...)
		for from := range n {
			for to := from + 2; to < n; to++ {
				edges := append([]impl.Edge{{From: from, To: to}}, chain...)
				if few := impl.Reduced(n, edges); !slices.Equal(few, chain) {
					t.Error("Reduced:", edgesText(few), "of", graph{n, edges})
				}
			}
		}
	}
	// a way by another number, in either direction of the numbers
	for _, c := range []struct{ edges, want string }{
		{"0>2 0>1 1>2", "0>1 1>2"},
		{"2>0 2>1 1>0", "1>0 2>1"},
		{"0>1 0>2 2>1", "0>2 2>1"},
		{"1>2 1>0 0>2", "0>2 1>0"},
		{"0>3 0>1 1>2 2>3 0>3", "0>1 1>2 2>3"},
		{"0>1 0>2 0>3 1>3", "0>1 0>2 1>3"},
	} {
		if few := impl.Reduced(4, edgesOf(c.edges)); edgesText(few) != c.want {
			t.Error("Reduced:", edgesText(few), "want", c.want, "of", c.edges)
		}
	}
}

func TestMostEdges(t *testing.T) {
	const most = impl.MaxSys
	chain := row(upTo(most)...)
	many := padded(allForward(most), allForward(most), impl.MaxEdges)
	for _, edges := range [][]impl.Edge{many, padded(chain, chain, impl.MaxEdges), padded(nil, chain, impl.MaxEdges-1)} {
		g := graph{most, edges}
		if order, ok := impl.Canon(most, edges); !ok || !slices.Equal(order, upTo(most)) || !impl.LinearOk(most, edges, order) {
			t.Error("Canon:", order, ok, "of", g)
		}
		if few := impl.Reduced(most, edges); !slices.Equal(few, chain) {
			t.Error("Reduced:", edgesText(few), "of", g)
		}
		if len(impl.Circle(most, edges)) != 0 || !impl.Ahead(most, edges, 0, most-1) || impl.Ahead(most, edges, most-1, 0) {
			t.Error("Circle, Ahead of", g)
		}
	}
	// only the last one of all edges makes a circle, or forbids an order
	last := append(slices.Clone(many[:impl.MaxEdges-1]), impl.Edge{From: 9, To: 4})
	if circle := impl.Circle(most, last); !slices.Equal(circle, []int{4, 9}) {
		t.Error("Circle:", circle)
	}
	if order, ok := impl.Canon(most, last); ok || len(order) != 0 || impl.LinearOk(most, last, upTo(most)) {
		t.Error("Canon:", order, ok)
	}
	alone := append(padded(nil, edgesOf("0>1"), impl.MaxEdges-1), impl.Edge{From: 3, To: 2})
	if order, ok := impl.Canon(4, alone); !ok || numbersText(order) != "0 1 3 2" || impl.Linears(4, alone) != 6 {
		t.Error("Canon:", order, ok)
	}
	if list, ok := impl.Linear(4, alone, 5); !ok || numbersText(list) != "3 2 0 1" {
		t.Error("Linear:", list, ok)
	}
	self := padded(nil, edgesOf("0>0"), impl.MaxEdges)
	if !impl.GraphOk(1, self) || !slices.Equal(impl.Circle(1, self), []int{0}) || !impl.Ahead(1, self, 0, 0) || impl.Linears(1, self) != 0 {
		t.Error("one number with all edges to itself")
	}
	// all pairs that there is room for, those to one's own beginning included
	g := graph{14, chosen(14, -1)}
	if !impl.GraphOk(g.n, g.edges) || !slices.Equal(impl.Circle(g.n, g.edges), []int{0}) {
		t.Error("all pairs")
	}
}

// How many lists there are of graphs for which that is known.
func TestLinearsThatAreKnown(t *testing.T) {
	for _, c := range []struct {
		what  string
		n     int
		edges string
		want  int
	}{
		{"no edge", 8, "", 40320},
		{"one edge", 8, "7>0", 20160},
		{"one for which all wait", 8, "3>0 3>1 3>2 3>4 3>5 3>6 3>7", 5040},
		{"two chains of four", 8, "0>1 1>2 2>3 4>5 5>6 6>7", 70},
		{"four chains of two", 8, "0>1 2>3 4>5 6>7", 2520},
		{"a fence, up and down", 8, "0>1 2>1 2>3 4>3 4>5 6>5 6>7", 1385},
		{"a fence of seven", 7, "0>1 2>1 2>3 4>3 4>5 6>5", 272},
		{"four ahead of four", 8, "0>4 0>5 0>6 0>7 1>4 1>5 1>6 1>7 2>4 2>5 2>6 2>7 3>4 3>5 3>6 3>7", 576},
		{"two rows of four", 8, "0>1 1>2 2>3 4>5 5>6 6>7 0>4 1>5 2>6 3>7", 14},
		{"the corners of a cube", 8, "0>1 0>2 0>4 1>3 1>5 2>3 2>6 4>5 4>6 3>7 5>7 6>7", 48},
		{"a tree", 7, "0>1 0>2 1>3 1>4 2>5 2>6", 80},
		{"a circle of two among eight", 8, "5>6 6>5", 0},
		{"a circle of eight", 8, "0>1 1>2 2>3 3>4 4>5 5>6 6>7 7>0", 0},
	} {
		if got := impl.Linears(c.n, edgesOf(c.edges)); got != c.want {
			t.Error(c.what, got, "want", c.want)
		}
	}
}

func TestLinearAtItsLimits(t *testing.T) {
	const most = impl.MaxLinear
	if impl.Linears(0, nil) != 1 {
		t.Error("Linears of no number")
	}
	if list, ok := impl.Linear(0, nil, 0); !ok || len(list) != 0 {
		t.Error("the empty list:", list, ok)
	}
	for _, c := range []struct {
		k    int
		want string
	}{
		{0, "0 1 2 3 4 5 6 7"}, {1, "0 1 2 3 4 5 7 6"}, {5039, "0 7 6 5 4 3 2 1"}, {5040, "1 0 2 3 4 5 6 7"},
		{20160, "4 0 1 2 3 5 6 7"}, {40318, "7 6 5 4 3 2 0 1"}, {40319, "7 6 5 4 3 2 1 0"},
	} {
		if list, ok := impl.Linear(most, nil, c.k); !ok || numbersText(list) != c.want {
			t.Error("Linear", c.k, list, ok, "want", c.want)
		}
	}
	graph{most, nil}.lawful(t, arrangements(most))
	for _, k := range []int{40320, 40321, -1, leastInt, mostInt} {
		if list, ok := impl.Linear(most, nil, k); ok || len(list) != 0 {
			t.Error("Linear", k, list, ok)
		}
	}
	if list, ok := impl.Linear(0, nil, 1); ok || len(list) != 0 {
		t.Error("behind the empty list:", list, ok)
	}
	for n := most + 1; n <= impl.MaxSys; n++ {
		for _, edges := range [][]impl.Edge{nil, row(upTo(n)...), ring(upTo(n)...)} {
			if got := impl.Linears(n, edges); got != -1 {
				t.Error("Linears:", got, "of", graph{n, edges})
			}
			for _, k := range []int{leastInt, -2, -1, 0, 1, mostInt} {
				if list, ok := impl.Linear(n, edges, k); ok || len(list) != 0 {
					t.Error("Linear", k, list, "of", graph{n, edges})
				}
			}
			if _, ok := impl.Canon(n, edges); ok != (len(edges) < n) {
				t.Error("Canon of", graph{n, edges})
			}
		}
	}
}
