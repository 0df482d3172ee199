package tests

import (
	"testing"
	"unsafe"

	"loop.example/g00070/impl"
)

// sameNodeMemory asks that both have one list of Kids, not only one like it.
func sameNodeMemory(a, b impl.Node) bool {
	return a.Kind == b.Kind && a.Text == b.Text && a.I == b.I && sameMemory(a.Kids, b.Kids)
}

// roomyTree is x with room ahead of each list and behind it, full of what a
// tree might take for its own.
func (g *guards) roomyTree(x impl.Tree) impl.Tree {
	var nodes []impl.Node
	for i, n := range x.Nodes {
		n.Kids = guardIn(g, n.Kids, i-1, sameInt)
		nodes = append(nodes, n)
	}
	return impl.Tree{
		Nodes: guardIn(g, nodes, impl.Node{Kind: impl.NKill}, sameNodeMemory),
		Tops:  guardIn(g, x.Tops, len(x.Nodes)-1, sameInt),
	}
}

func (s *stamps) tree(x impl.Tree) {
	for _, n := range x.Nodes {
		s.ints(n.Kids)
	}
	s.ints(x.Tops)
	stamp(s, x.Nodes, func(n int) impl.Node { return impl.Node{Kind: -1, I: n} }, func(n impl.Node) int { return n.I })
}

// memoryTrees holds right trees and wrong ones.
func memoryTrees() []impl.Tree {
	list := everyKind()
	g := &gardener{dice(21)}
	for range 300 {
		x := treeOf(g.tops(3, 2)...)
		list = append(list, cloneTree(x))
		if len(x.Nodes) > 0 {
			g.spoil(&x)
			list = append(list, x)
		}
	}
	return append(list, impl.Tree{Nodes: make([]impl.Node, impl.MaxNodes+1)}, impl.Tree{Tops: []int{5, -5}})
}

func TestTreesLeaveTheArgumentAlone(t *testing.T) {
	for i, x := range memoryTrees() {
		var g guards
		roomy := g.roomyTree(x)
		if impl.TreeOk(roomy) != impl.TreeOk(x) || !impl.TreeSame(roomy, x) || !impl.TreeSame(x, roomy) {
			t.Error("spare room is looked at", i)
		}
		text, ok := impl.Print(roomy)
		if plain, other := impl.Print(x); plain != text || ok != other {
			t.Error("spare room is looked at by Print", i)
		}
		if !g.kept() {
			t.Error("the argument was written into", i)
		}
	}
}

// Kids of one argument may lie in one memory.
func TestTreeThatSharesInTheArgument(t *testing.T) {
	nums := []int{0, 1, 2, 3, 4, 5}
	x := impl.Tree{
		Nodes: []impl.Node{{Kind: impl.NKill}, {Kind: impl.NBlock, Kids: nums[:1]}, {Kind: impl.NSystem, Text: "s", Kids: nums[1:2]}, {Kind: impl.NBlock}, {Kind: impl.NSystem, Text: "t", Kids: nums[3:4]}},
		Tops:  []int{2, 4},
	}
	if s, ok := impl.Print(x); !ok || s != "system s { kill ; }\nsystem t { }\n" || !impl.TreeOk(x) {
		t.Error("shared kids:", s, ok)
	}
	for i, n := range nums {
		if i != n {
			t.Error("written into", nums)
		}
	}
}

func TestParsedTreesAreNewMemory(t *testing.T) {
	g := &gardener{dice(12)}
	texts := []string{"", "system s { }", "system s { x = ; }", "?"}
	for _, text := range judgedTexts() {
		texts = append(texts, text)
	}
	for range 200 {
		texts = append(texts, pen{}.textOf(g.tops(3, 3)...))
	}
	for _, text := range texts {
		was := string([]byte(text))
		first, _, _ := impl.Parse(text)
		want := cloneTree(first)
		second, _, _ := impl.Parse(text)
		s := &stamps{}
		s.tree(first)
		if !sameTree(second, want) {
			t.Fatalf("two answers share memory: %q", text)
		}
		s.tree(second)
		if !s.kept() {
			t.Fatalf("two lists of one answer share memory: %q", text)
		}
		if third, _, _ := impl.Parse(text); !sameTree(third, want) || text != was {
			t.Fatalf("the third answer is another one: %q", text)
		}
	}
}

func TestTextsOfNodesAreNewMemory(t *testing.T) {
	text := "fn f ( a int ) real { return 1.50 ; } system s { each with Hp { . Hp = f ( x ) ; } }"
	x, _, _ := impl.Parse(text)
	inside := func(part, whole string) bool {
		if part == "" {
			return false
		}
		at, from := uintptr(unsafe.Pointer(unsafe.StringData(part))), uintptr(unsafe.Pointer(unsafe.StringData(whole)))
		return at >= from && at < from+uintptr(len(whole))
	}
	for _, n := range x.Nodes {
		if inside(n.Text, text) {
			t.Errorf("the text of %v is a piece of the argument", n)
		}
	}
	if s, ok := impl.Print(x); !ok || inside(x.Nodes[0].Text, s) {
		t.Error("what is printed holds a node's text")
	}
}
