package tests

import (
	"slices"
	"strings"
	"sync"
	"testing"
	"unsafe"

	"loop.example/g00070/impl"
)

func (s *stamps) texts(list []string) {
	stamp(s, list, func(n int) string { return strings.Repeat("?", n) }, func(text string) int { return len(text) })
}

// smallerTold is all that the chapter's functions tell.
type smallerTold struct {
	folded, few impl.Tree
	okFold      bool
	okPrune     bool
	names       []string
	sizes       []int
}

func smallerAll(r impl.Reg, x impl.Tree, name string) smallerTold {
	var a smallerTold
	a.folded, a.okFold = impl.Fold(x)
	a.names = impl.Reaches(r, x, name)
	a.few, a.okPrune = impl.Prune(r, x, name)
	a.sizes = impl.Sizes(x)
	return a
}

func (a smallerTold) same(b smallerTold) bool {
	return sameTree(a.folded, b.folded) && sameTree(a.few, b.few) && a.okFold == b.okFold && a.okPrune == b.okPrune && slices.Equal(a.names, b.names) && slices.Equal(a.sizes, b.sizes)
}

func (s *stamps) smaller(a smallerTold) {
	s.tree(a.folded)
	s.tree(a.few)
	s.texts(a.names)
	s.ints(a.sizes)
}

// The arguments, with room behind each of their lists, are as they were behind
// each call; answers share no memory with them, nor with one another.
func TestSmallerTreesLeaveTheArgumentsAlone(t *testing.T) {
	told := 0
	for i, c := range regTrees(239, 150, 5) {
		var g guards
		roomyReg, roomyTree := g.roomyReg(c.r), g.roomyTree(c.x)
		for _, name := range c.names {
			want, again := smallerAll(c.r, c.x, name), smallerAll(c.r, c.x, name)
			a := smallerAll(roomyReg, roomyTree, name)
			if !a.same(want) {
				t.Fatal("spare room is looked at, or something is kept from call to call", i, name)
			}
			told += len(a.names)
			var s stamps
			s.smaller(a)
			s.smaller(want)
			if !s.kept() {
				t.Fatal("two lists of answers share memory", i, name)
			}
			if !again.same(smallerAll(c.r, c.x, name)) || !again.same(smallerAll(roomyReg, roomyTree, name)) {
				t.Fatal("a changed answer is told again", i, name)
			}
		}
		if !g.kept() {
			t.Fatal("an argument was written into", i)
		}
	}
	if told < 200 {
		t.Error("too few names were told:", told)
	}
}

// Kids of one argument may lie in one memory.
func TestSmallerTreesThatShareInTheArgument(t *testing.T) {
	nums := []int{0, 1, 2, 3, 4, 5, 6, 7}
	x := impl.Tree{
		Nodes: []impl.Node{
			{Kind: impl.NInt, I: 1}, {Kind: impl.NInt, I: 1}, {Kind: impl.NOp, I: impl.OpAdd, Kids: nums[:2]}, {Kind: impl.NSetRes, Text: "Score", Kids: nums[2:3]},
			{Kind: impl.NBlock, Kids: nums[3:4]}, {Kind: impl.NSystem, Text: "s", Kids: nums[4:5]}, {Kind: impl.NBlock}, {Kind: impl.NSystem, Text: "t", Kids: nums[6:7]},
		},
		Tops: []int{5, 7},
	}
	foldIs(t, x, parsedTree(t, "system s { $Score = 2; } system t { }"))
	pruneIs(t, checkReg(), x, "s", []int{0})
	pruneIs(t, checkReg(), x, "t", []int{1})
	sizesAre(t, x, 6, 2)
	var s stamps
	a := smallerAll(checkReg(), x, "s")
	s.smaller(a)
	if !s.kept() || !slices.Equal(nums, upTo(8)) {
		t.Error("memory is shared:", nums)
	}
}

// The texts of an answer are no pieces of the argument's.
func TestTextsOfSmallerTreesAreNewMemory(t *testing.T) {
	x := checked(t, "fn f(a int) int { let b = 1.5; return a; } system s { let q = f(1); hear Hit as h { $Score = h; } }")
	held := map[*byte]string{}
	for _, n := range x.Nodes {
		if n.Text != "" {
			held[unsafe.StringData(n.Text)] = n.Text
		}
	}
	a := smallerAll(checkReg(), x, "s")
	texts := slices.Clone(a.names)
	for _, n := range slices.Concat(a.folded.Nodes, a.few.Nodes) {
		texts = append(texts, n.Text)
	}
	if len(texts) < 30 || len(held) == 0 {
		t.Error("too few texts:", texts)
	}
	for _, text := range texts {
		if text == "" {
			continue
		}
		if _, ok := held[unsafe.StringData(text)]; ok {
			t.Errorf("the text %q is the argument's", text)
		}
	}
}

// Many at one time tell what one tells.
func TestSmallerTreesSideBySide(t *testing.T) {
	w := newAuthor(240)
	var trees []impl.Tree
	for range 30 {
		trees = append(trees, treeOf(w.text(5, 2)...))
	}
	var want []smallerTold
	for _, x := range trees {
		want = append(want, smallerAll(checkReg(), x, x.Nodes[x.Tops[len(x.Tops)-1]].Text))
	}
	var all sync.WaitGroup
	for range 4 {
		all.Go(func() {
			for i, x := range trees {
				if !smallerAll(checkReg(), x, x.Nodes[x.Tops[len(x.Tops)-1]].Text).same(want[i]) {
					t.Error("another answer", i)
				}
			}
		})
	}
	all.Wait()
}
