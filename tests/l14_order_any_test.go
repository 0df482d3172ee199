package tests

import (
	"slices"
	"testing"

	"loop.example/g00070/impl"
)

// lawful asks for what follows of a graph of up to MaxLinear numbers; all is
// the arrangements of its numbers.
func (g graph) lawful(t *testing.T, all [][]int) {
	t.Helper()
	g.asPlain(t)
	var right [][]int
	for _, list := range all {
		want := g.plainLinearOk(list)
		if impl.LinearOk(g.n, g.edges, list) != want {
			t.Fatal("LinearOk of", list, "want", want, "of", g)
		}
		if want {
			right = append(right, list)
		}
	}
	g.tells(t, right)
	order, ok := impl.Canon(g.n, g.edges)
	if ok != (len(impl.Circle(g.n, g.edges)) == 0) || ok != (len(right) > 0) || ok && !slices.Equal(order, right[0]) {
		t.Fatal("Canon:", order, ok, "of", g)
	}
	reduced := graph{g.n, impl.Reduced(g.n, g.edges)}
	if !ok {
		if len(reduced.edges) != 0 {
			t.Fatal("reduced with a circle:", edgesText(reduced.edges), "of", g)
		}
		return
	}
	reduced.tells(t, right)
	if aheadText(reduced) != aheadText(g) {
		t.Fatal("Ahead by the reduced edges:", aheadText(reduced), "want", aheadText(g), "of", g)
	}
	if again := impl.Reduced(reduced.n, reduced.edges); !slices.Equal(again, reduced.edges) {
		t.Fatal("reduced twice:", edgesText(again), "once:", edgesText(reduced.edges), "of", g)
	}
}

// tells asks that just these lists are told, each at its number.
func (g graph) tells(t *testing.T, lists [][]int) {
	t.Helper()
	if count := impl.Linears(g.n, g.edges); count != len(lists) {
		t.Fatal("Linears:", count, "want", len(lists), "of", g)
	}
	for k, want := range lists {
		if list, ok := impl.Linear(g.n, g.edges, k); !ok || !slices.Equal(list, want) {
			t.Fatal("Linear", k, list, ok, "want", want, "of", g)
		}
	}
	for _, k := range []int{len(lists), len(lists) + 1, -1, mostInt, leastInt} {
		if list, ok := impl.Linear(g.n, g.edges, k); ok || len(list) != 0 {
			t.Fatal("Linear", k, list, ok, "of", g)
		}
	}
}

// chosen is all edges between the first n numbers whose bits are set.
func chosen(n, set int) []impl.Edge {
	var edges []impl.Edge
	for i := range n * n {
		if set>>i&1 == 1 {
			edges = append(edges, impl.Edge{From: i / n, To: i % n})
		}
	}
	return edges
}

// listsAbout is all lists of up to n + 1 numbers from -1 to n.
func listsAbout(n int) [][]int {
	all := [][]int{nil}
	for from := 0; len(all[from]) <= n; from++ {
		for next := -1; next <= n; next++ {
			all = append(all, append(slices.Clone(all[from]), next))
		}
	}
	return all
}

func TestAllGraphsOfUpToThreeNumbers(t *testing.T) {
	for n := range 4 {
		all := arrangements(n)
		lists := listsAbout(n)
		for set := range 1 << (n * n) {
			g := graph{n, chosen(n, set)}
			g.lawful(t, all)
			for _, list := range lists {
				if impl.LinearOk(n, g.edges, list) != g.plainLinearOk(list) {
					t.Fatal("LinearOk of", list, "of", g)
				}
			}
		}
	}
}

func TestAllGraphsOfFourNumbers(t *testing.T) {
	for set := range 1 << 16 {
		graph{4, chosen(4, set)}.asPlain(t)
	}
}

func TestAnyGraphs(t *testing.T) {
	d := dice(14)
	round, straight := 0, 0
	for n := range impl.MaxLinear + 1 {
		all := arrangements(n)
		count := 400
		if n > 6 {
			count = 60
		}
		for range count {
			g := anyGraph(&d, n)
			g.lawful(t, all)
			if len(impl.Circle(n, g.edges)) > 0 {
				round++
			} else if len(g.edges) > 3 {
				straight++
			}
		}
	}
	if round < 300 || straight < 300 {
		t.Error("too few with a circle, or without:", round, straight)
	}
}

// Graphs of more numbers than lists are counted for.
func TestAnyGreaterGraphs(t *testing.T) {
	d := dice(141)
	lengths := map[int]int{}
	for i := range 3000 {
		n := impl.MaxLinear + 1 + i%(impl.MaxSys-impl.MaxLinear)
		g := anyGraph(&d, n)
		g.asPlain(t)
		lengths[len(impl.Circle(n, g.edges))]++
		reduced := graph{n, impl.Reduced(n, g.edges)}
		if order, ok := impl.Canon(n, g.edges); ok {
			again, _ := impl.Canon(n, reduced.edges)
			if !slices.Equal(again, order) || aheadText(reduced) != aheadText(g) || !slices.Equal(impl.Reduced(n, reduced.edges), reduced.edges) {
				t.Fatal("Reduced:", edgesText(reduced.edges), "of", g)
			}
			if !impl.LinearOk(n, reduced.edges, order) || !impl.LinearOk(n, g.edges, order) {
				t.Fatal("LinearOk:", order, "of", g)
			}
		}
		if impl.Linears(n, g.edges) != -1 {
			t.Fatal("lists are counted of", g)
		}
		if list, ok := impl.Linear(n, g.edges, 0); ok || len(list) != 0 {
			t.Fatal("a list is told:", list, "of", g)
		}
	}
	for length := range 6 {
		if lengths[length] == 0 {
			t.Error("no circle of the length", length, lengths)
		}
	}
}

// Nothing hangs on the order in which edges are told, nor on how often one is.
func TestEdgesInAnotherOrder(t *testing.T) {
	d := dice(142)
	for i := range 1500 {
		g := anyGraph(&d, 1+i%impl.MaxSys)
		other := graph{n: g.n}
		for _, e := range g.edges {
			for range 1 + d.roll(3) {
				other.edges = slices.Insert(other.edges, d.roll(len(other.edges)+1), e)
			}
		}
		if !impl.GraphOk(other.n, other.edges) {
			t.Fatal("not right:", other)
		}
		order, ok := impl.Canon(g.n, g.edges)
		list, same := impl.Canon(g.n, other.edges)
		if ok != same || !slices.Equal(order, list) || impl.LinearOk(g.n, other.edges, order) != impl.LinearOk(g.n, g.edges, order) {
			t.Fatal("Canon:", list, same, "want", order, ok, "of", g)
		}
		if !slices.Equal(impl.Circle(g.n, g.edges), impl.Circle(g.n, other.edges)) {
			t.Fatal("Circle of", g, "and", other)
		}
		if aheadText(g) != aheadText(other) || !slices.Equal(impl.Reduced(g.n, g.edges), impl.Reduced(g.n, other.edges)) {
			t.Fatal("Ahead or Reduced of", g, "and", other)
		}
		if impl.Linears(g.n, g.edges) != impl.Linears(g.n, other.edges) {
			t.Fatal("Linears of", g, "and", other)
		}
	}
}
