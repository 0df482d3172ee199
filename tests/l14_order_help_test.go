package tests

import (
	"fmt"
	"slices"
	"strconv"
	"strings"
	"testing"

	"loop.example/g00070/impl"
)

// graph is what most functions of the chapter are given.
type graph struct {
	n     int
	edges []impl.Edge
}

// edgesOf reads edges such as 0>1 2>0.
func edgesOf(text string) []impl.Edge {
	var list []impl.Edge
	for _, word := range strings.Fields(text) {
		var e impl.Edge
		if _, err := fmt.Sscanf(word, "%d>%d", &e.From, &e.To); err != nil {
			panic(word)
		}
		list = append(list, e)
	}
	return list
}

func graphOf(n int, edges string) graph { return graph{n, edgesOf(edges)} }

func edgesText(list []impl.Edge) string {
	var words []string
	for _, e := range list {
		words = append(words, fmt.Sprintf("%d>%d", e.From, e.To))
	}
	return strings.Join(words, " ")
}

func numbersText(list []int) string {
	var words []string
	for _, n := range list {
		words = append(words, strconv.Itoa(n))
	}
	return strings.Join(words, " ")
}

func (g graph) String() string {
	text := edgesText(g.edges)
	if len(text) > 300 {
		text = text[:300] + " .."
	}
	return fmt.Sprintf("%d: %s (%d edges)", g.n, text, len(g.edges))
}

// row is an edge from each number to the next one of the list.
func row(list ...int) []impl.Edge {
	var edges []impl.Edge
	for i := 1; i < len(list); i++ {
		edges = append(edges, impl.Edge{From: list[i-1], To: list[i]})
	}
	return edges
}

// ring is a row whose last number leads to its first one.
func ring(list ...int) []impl.Edge {
	return append(row(list...), impl.Edge{From: list[len(list)-1], To: list[0]})
}

func downFrom(n int) []int {
	list := upTo(n)
	slices.Reverse(list)
	return list
}

// allForward is an edge from each number to each greater one.
func allForward(n int) []impl.Edge {
	var edges []impl.Edge
	for from := range n {
		for to := from + 1; to < n; to++ {
			edges = append(edges, impl.Edge{From: from, To: to})
		}
	}
	return edges
}

// padded is edges with those of more behind them, again and again, up to count.
func padded(edges []impl.Edge, more []impl.Edge, count int) []impl.Edge {
	list := slices.Clone(edges)
	for i := 0; len(list) < count; i++ {
		list = append(list, more[i%len(more)])
	}
	return list
}

// aheadText is all pairs of which Ahead tells that the one is ahead.
func aheadText(g graph) string {
	var list []impl.Edge
	for a := range max(g.n, 0) {
		for b := range g.n {
			if impl.Ahead(g.n, g.edges, a, b) {
				list = append(list, impl.Edge{From: a, To: b})
			}
		}
	}
	return edgesText(list)
}

func (g graph) hasEdge(a, b int) bool { return slices.Contains(g.edges, impl.Edge{From: a, To: b}) }

// The plain answers below are for graphs that are right, and are found by
// trying, not by bits.

func (g graph) plainLinearOk(order []int) bool {
	if len(order) != g.n {
		return false
	}
	for number := range g.n {
		if !slices.Contains(order, number) {
			return false
		}
	}
	return !slices.ContainsFunc(g.edges, func(e impl.Edge) bool {
		return slices.Index(order, e.From) >= slices.Index(order, e.To)
	})
}

func (g graph) plainCanon() ([]int, bool) {
	var order []int
	for len(order) < g.n {
		next := slices.IndexFunc(upTo(g.n), func(n int) bool {
			return !slices.Contains(order, n) && !slices.ContainsFunc(g.edges, func(e impl.Edge) bool {
				return e.To == n && !slices.Contains(order, e.From)
			})
		})
		if next < 0 {
			return nil, false
		}
		order = append(order, next)
	}
	return order, true
}

// plainCircle tries all lists of one number, then all of two, and so on, each
// time from the least one on.
func (g graph) plainCircle() []int {
	for length := 1; length <= g.n; length++ {
		for first := range g.n {
			if list := g.grownTo(length, []int{first}); list != nil {
				return list
			}
		}
	}
	return nil
}

func (g graph) grownTo(length int, list []int) []int {
	last := list[len(list)-1]
	if len(list) == length {
		if g.hasEdge(last, list[0]) {
			return list
		}
		return nil
	}
	for next := range g.n {
		if g.hasEdge(last, next) {
			if whole := g.grownTo(length, append(slices.Clone(list), next)); whole != nil {
				return whole
			}
		}
	}
	return nil
}

// plainBehind is which numbers can be come to from a.
func (g graph) plainBehind(a int) []int {
	var met []int
	work := []int{a}
	for len(work) > 0 {
		at := work[0]
		work = work[1:]
		for to := range g.n {
			if g.hasEdge(at, to) && !slices.Contains(met, to) {
				met = append(met, to)
				work = append(work, to)
			}
		}
	}
	return slices.Sorted(slices.Values(met))
}

func (g graph) plainReduced() []impl.Edge {
	if _, ok := g.plainCanon(); !ok {
		return nil
	}
	behind := make([][]int, g.n)
	for a := range g.n {
		behind[a] = g.plainBehind(a)
	}
	var list []impl.Edge
	for a := range g.n {
		for _, b := range behind[a] {
			if !slices.ContainsFunc(behind[a], func(c int) bool { return slices.Contains(behind[c], b) }) {
				list = append(list, impl.Edge{From: a, To: b})
			}
		}
	}
	return list
}

// arrangements is all lists that have each of the first n numbers once, rising.
func arrangements(n int) [][]int {
	lists := [][]int{nil}
	for range n {
		var longer [][]int
		for _, list := range lists {
			for next := range n {
				if !slices.Contains(list, next) {
					longer = append(longer, append(slices.Clone(list), next))
				}
			}
		}
		lists = longer
	}
	return lists
}

// asPlain holds what is told of a right graph against the plain answers.
func (g graph) asPlain(t *testing.T) {
	t.Helper()
	if !impl.GraphOk(g.n, g.edges) {
		t.Fatal("not right:", g)
	}
	order, ok := impl.Canon(g.n, g.edges)
	wantOrder, wantOk := g.plainCanon()
	if ok != wantOk || !slices.Equal(order, wantOrder) {
		t.Fatal("Canon:", order, ok, "want", wantOrder, wantOk, "of", g)
	}
	if ok && !impl.LinearOk(g.n, g.edges, order) {
		t.Fatal("not LinearOk:", order, "of", g)
	}
	circle, want := impl.Circle(g.n, g.edges), g.plainCircle()
	if !slices.Equal(circle, want) || ok != (len(circle) == 0) {
		t.Fatal("Circle:", circle, "want", want, "of", g)
	}
	for a := range g.n {
		behind := g.plainBehind(a)
		for b := range g.n {
			if impl.Ahead(g.n, g.edges, a, b) != slices.Contains(behind, b) {
				t.Fatal("Ahead:", a, b, "want", slices.Contains(behind, b), "of", g)
			}
		}
	}
	if list := impl.Reduced(g.n, g.edges); !slices.Equal(list, g.plainReduced()) {
		t.Fatal("Reduced:", edgesText(list), "want", edgesText(g.plainReduced()), "of", g)
	}
}

// anyGraph has edges by chance, mostly along an order that is hidden, some of
// them twice, and at times one of them the other way round as well.
func anyGraph(d *dice, n int) graph {
	g := graph{n: n}
	if n == 0 {
		return g
	}
	hidden := upTo(n)
	for i := range hidden {
		j := i + d.roll(n-i)
		hidden[i], hidden[j] = hidden[j], hidden[i]
	}
	along := d.roll(4) > 0
	for range d.roll(3*n + 1) {
		a, b := d.roll(n), d.roll(n)
		if along {
			a, b = min(a, b), max(a, b)
		}
		if a != b || !along && d.roll(4) == 0 {
			g.edges = append(g.edges, impl.Edge{From: hidden[a], To: hidden[b]})
		}
		if len(g.edges) > 0 && d.roll(6) == 0 {
			g.edges = append(g.edges, oneOf(d, g.edges))
		}
	}
	if len(g.edges) > 0 && d.roll(5) == 0 {
		e := oneOf(d, g.edges)
		g.edges = append(g.edges, impl.Edge{From: e.To, To: e.From})
	}
	return g
}
