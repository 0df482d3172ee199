package tests

import (
	"slices"
	"testing"

	"loop.example/g00070/impl"
)

// noEnds is numbers that are no ends of an edge where there are n; some of them
// would be, if only a part of their bits were looked at.
func noEnds(n int) []int {
	return []int{-1, -2, -n, -n - 1, n, n + 1, impl.MaxSys, impl.MaxSys + 1, 32, 64, 64 + n, 256, 1 << 16, 1 << 32, 1<<32 + n, leastInt, leastInt + 1, leastInt + n, mostInt, mostInt - 1}
}

func wrongGraphs() []graph {
	var list []graph
	for _, n := range []int{-1, -2, -impl.MaxSys, impl.MaxSys + 1, impl.MaxSys + 2, 32, 64, 1 << 16, 1 << 32, 1<<32 + 3, leastInt, leastInt + 1, leastInt + 3, mostInt, mostInt - 1} {
		list = append(list, graph{n, nil}, graph{n, []impl.Edge{}}, graphOf(n, "0>1"), graphOf(n, "0>0 1>0"), graph{n, padded(nil, edgesOf("0>1"), impl.MaxEdges)})
	}
	for _, count := range []int{impl.MaxEdges + 1, impl.MaxEdges + 2, 10 * impl.MaxEdges, 1 << 16} {
		for _, edges := range [][]impl.Edge{edgesOf("0>1"), edgesOf("1>1"), row(0, 1, 0)} {
			list = append(list, graph{2, padded(nil, edges, count)}, graph{impl.MaxLinear, padded(nil, edges, count)}, graph{impl.MaxSys, padded(nil, edges, count)})
		}
	}
	for n := range impl.MaxSys + 1 {
		for _, end := range noEnds(n) {
			if end >= 0 && end < n {
				continue
			}
			for _, wrong := range []impl.Edge{{From: end, To: 0}, {From: 0, To: end}, {From: end, To: n - 1}, {From: n - 1, To: end}, {From: end, To: end}} {
				list = append(list, graph{n, []impl.Edge{wrong}})
				if n < 2 {
					continue
				}
				list = append(list, graph{n, append(row(upTo(n)...), wrong)}, graph{n, append([]impl.Edge{wrong}, ring(upTo(n)...)...)}, graph{n, slices.Insert(row(downFrom(n)...), n/2, wrong)})
				list = append(list, graph{n, append(padded(nil, row(upTo(n)...), impl.MaxEdges-1), wrong)})
			}
		}
	}
	return list
}

// What is no graph has none of the chapter's answers.
func TestNoGraphs(t *testing.T) {
	for _, g := range wrongGraphs() {
		if impl.GraphOk(g.n, g.edges) {
			t.Fatal("GraphOk of", g)
		}
		if list, ok := impl.Canon(g.n, g.edges); ok || len(list) != 0 {
			t.Fatal("Canon:", list, ok, "of", g)
		}
		if list := impl.Circle(g.n, g.edges); len(list) != 0 {
			t.Fatal("Circle:", list, "of", g)
		}
		for _, a := range []int{leastInt, -1, 0, 1, g.n - 1, g.n, mostInt} {
			for _, b := range []int{0, 1, g.n - 1, g.n, -1, mostInt} {
				if impl.Ahead(g.n, g.edges, a, b) {
					t.Fatal("Ahead:", a, b, "of", g)
				}
			}
		}
		if list := impl.Reduced(g.n, g.edges); len(list) != 0 {
			t.Fatal("Reduced:", edgesText(list), "of", g)
		}
		for _, order := range [][]int{nil, {}, {0}, upTo(min(max(g.n, 0), 70)), downFrom(min(max(g.n, 0), 70))} {
			if impl.LinearOk(g.n, g.edges, order) {
				t.Fatal("LinearOk of", order, "of", g)
			}
		}
		if count := impl.Linears(g.n, g.edges); count != -1 {
			t.Fatal("Linears:", count, "of", g)
		}
		for _, k := range []int{leastInt, -2, -1, 0, 1, mostInt} {
			if list, ok := impl.Linear(g.n, g.edges, k); ok || len(list) != 0 {
				t.Fatal("Linear", k, list, ok, "of", g)
			}
		}
	}
}

// Both ends of an edge are looked at, whichever edge it is: each of them is
// right up to the last number, and the next one is not.
func TestEndsOfEdgesUpToTheLastNumber(t *testing.T) {
	for n := range impl.MaxSys + 1 {
		for from := -2; from < impl.MaxSys+2; from++ {
			for to := -2; to < impl.MaxSys+2; to++ {
				want := from >= 0 && from < n && to >= 0 && to < n
				if impl.GraphOk(n, []impl.Edge{{From: from, To: to}}) != want {
					t.Error("GraphOk of", n, from, to)
				}
			}
		}
	}
	chain := padded(nil, row(upTo(impl.MaxSys)...), impl.MaxEdges)
	for i := range chain {
		edges := slices.Clone(chain)
		edges[i].From = impl.MaxSys
		other := slices.Clone(chain)
		other[i].To = -1
		if impl.GraphOk(impl.MaxSys, edges) || impl.GraphOk(impl.MaxSys, other) {
			t.Error("GraphOk with a wrong edge", i)
		}
	}
}

func TestAheadOfNoNumbers(t *testing.T) {
	for n := range impl.MaxSys + 1 {
		graphs := []graph{{n, nil}}
		if n > 0 {
			graphs = append(graphs, graph{n, row(upTo(n)...)}, graph{n, ring(upTo(n)...)}, graph{n, append(ring(upTo(n)...), impl.Edge{})})
		}
		for _, g := range graphs {
			for _, none := range noEnds(n) {
				if none >= 0 && none < n {
					continue
				}
				for number := range n {
					if impl.Ahead(n, g.edges, none, number) || impl.Ahead(n, g.edges, number, none) {
						t.Error("Ahead:", none, number, "of", g)
					}
				}
				for _, other := range noEnds(n) {
					if (other < 0 || other >= n) && impl.Ahead(n, g.edges, none, other) {
						t.Error("Ahead:", none, other, "of", g)
					}
				}
			}
		}
	}
}

// One number of a right list is wrong: it stands twice, or is none.
func TestListsThatAreNotLinear(t *testing.T) {
	for n := range impl.MaxSys + 1 {
		for _, edges := range [][]impl.Edge{nil, row(upTo(n)...), allForward(n)} {
			right := upTo(n)
			if !impl.LinearOk(n, edges, right) {
				t.Error("LinearOk of", right)
			}
			for _, order := range [][]int{append(upTo(n), 0), append(upTo(n), n), append(upTo(n), n-1), append(upTo(n), -1), append([]int{0}, right...), append(upTo(n), right...), upTo(1000), downFrom(17 + n)} {
				if len(order) != n && impl.LinearOk(n, edges, order) {
					t.Error("too long:", order, "of", graph{n, edges})
				}
			}
			for i := range right {
				if impl.LinearOk(n, edges, right[:i]) || impl.LinearOk(n, edges, right[n-i:]) || impl.LinearOk(n, edges, slices.Delete(upTo(n), i, i+1)) {
					t.Error("too short:", i, "of", graph{n, edges})
				}
				for _, number := range append(noEnds(n), upTo(n)...) {
					order := upTo(n)
					order[i] = number
					if number != i && impl.LinearOk(n, edges, order) {
						t.Error("LinearOk of", order, "of", graph{n, edges})
					}
				}
			}
		}
	}
}

// An order that one edge forbids, wherever that edge stands.
func TestListsThatOneEdgeForbids(t *testing.T) {
	for n := 1; n <= impl.MaxSys; n++ {
		for from := range n {
			for to := range n {
				against := impl.Edge{From: from, To: to}
				for _, edges := range [][]impl.Edge{{against}, append(row(upTo(n)...), against), append([]impl.Edge{against}, row(upTo(n)...)...), append(allForward(n), against)} {
					if impl.LinearOk(n, edges, upTo(n)) != (from < to) {
						t.Error("LinearOk with", against, "of", graph{n, edges})
					}
				}
			}
		}
	}
}

func TestLinearWithWrongNumbers(t *testing.T) {
	for _, g := range []graph{{0, nil}, {1, nil}, graphOf(3, "0>2"), graphOf(4, "0>1 1>2 2>3"), {8, nil}, graphOf(2, "0>1 1>0"), graphOf(1, "0>0")} {
		count := impl.Linears(g.n, g.edges)
		for _, k := range []int{-1, -2, -count, -count - 1, leastInt, leastInt + 1, leastInt + count, count, count + 1, 2*count + 1, 40320, 1 << 32, 1<<32 + 1, mostInt, mostInt - 1} {
			if k >= 0 && k < count {
				continue
			}
			if list, ok := impl.Linear(g.n, g.edges, k); ok || len(list) != 0 {
				t.Error("Linear", k, list, ok, "of", g)
			}
		}
	}
}
