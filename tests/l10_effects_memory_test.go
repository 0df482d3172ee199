package tests

import (
	"testing"

	"loop.example/g00070/impl"
)

// roomyEff has room ahead of each list and behind it, full of numbers that an
// effect might take for its own.
func (g *guards) roomyEff(e impl.Effect) impl.Effect {
	for i, list := range effLists(&e) {
		*list = guardIn(g, *list, i, sameInt)
	}
	return e
}

func (s *stamps) effect(e impl.Effect) {
	for _, list := range effLists(&e) {
		s.ints(*list)
	}
}

// regTree is a tree by a Reg, with names that it may be asked for.
type regTree struct {
	r     impl.Reg
	x     impl.Tree
	names []string
}

// regTrees holds memoryTrees, and so many texts by chance of so many tops at
// most, each right and marred; all of them by checkReg and by another Reg.
func regTrees(seed, texts, most int) []regTree {
	trees := memoryTrees()
	w := newAuthor(seed)
	for range texts {
		tops := w.text(most, 2)
		trees = append(trees, treeOf(tops...), treeOf(w.mar(tops)...))
	}
	regs := append(wrongRegs()[:6], checkReg(), worldReg(), impl.Reg{})
	var list []regTree
	for i, x := range trees {
		names := []string{"", "spare", "s"}
		for _, top := range x.Tops {
			if top >= 0 && top < len(x.Nodes) {
				names = append(names, x.Nodes[top].Text)
			}
		}
		list = append(list, regTree{checkReg(), x, names}, regTree{regs[i%len(regs)], x, names})
	}
	return list
}

// The arguments, with room behind each of their lists, are as they were behind
// each call, and the answers are lists of their own.
func TestEffectsLeaveTheArgumentsAlone(t *testing.T) {
	for i, c := range regTrees(110, 100, 4) {
		var g guards
		roomyReg, roomyTree := g.roomyReg(c.r), g.roomyTree(c.x)
		for _, name := range c.names {
			var s stamps
			want, wantOk := impl.Effects(c.r, c.x, name)
			e, ok := impl.Effects(roomyReg, roomyTree, name)
			if ok != wantOk || effText(e) != effText(want) {
				t.Fatal("spare room is looked at, or something is kept from call to call", i, name)
			}
			s.effect(e)
			s.effect(want)
			if !s.kept() {
				t.Fatal("two lists of one answer share memory", i, name)
			}
		}
		if !g.kept() {
			t.Fatal("an argument was written into", i)
		}
	}
}

func memoryEffects() []impl.Effect {
	list := []impl.Effect{{}, effOf("Spawns"), effOf("Read 1 Kills"), effOf("Read 0 1 2 Write 0 1 2 Match 0 1 2 ReadRes 0 1 2 WriteRes 0 1 2 Send 0 1 2 Hear 0 1 2 Add 0 1 2")}
	d := dice(111)
	for range 40 {
		list = append(list, anyEffect(&d, strangeNumbers))
	}
	return list
}

func TestJoinsLeaveTheArgumentsAlone(t *testing.T) {
	for _, a := range memoryEffects() {
		for _, b := range memoryEffects() {
			var g guards
			var s stamps
			roomyA, roomyB := g.roomyEff(a), g.roomyEff(b)
			e := impl.EffJoin(roomyA, roomyB)
			within, right, commands := impl.EffWithin(roomyA, roomyB), impl.EffectOk(checkReg(), roomyA), impl.Commands(roomyA)
			if effText(e) != effText(impl.EffJoin(a, b)) || within != impl.EffWithin(a, b) || right != impl.EffectOk(checkReg(), a) || commands != impl.Commands(a) {
				t.Fatal("spare room is looked at, or something is kept from call to call:", effText(a), effText(b))
			}
			s.effect(e)
			if !s.kept() {
				t.Fatal("two lists of one answer share memory:", effText(a), effText(b))
			}
			if !g.kept() {
				t.Fatal("an argument was written into:", effText(a), effText(b))
			}
		}
	}
}

// An effect joined with itself, or with one that has nothing, is new memory,
// too; and all lists of an argument may lie in one memory.
func TestJoinsOfListsThatShareInTheArgument(t *testing.T) {
	nums := []int{3, 1, 2, 2, 0, 5}
	var a, b impl.Effect
	for i, list := range effLists(&a) {
		*list = nums[:i%4]
		*effLists(&b)[i] = nums
	}
	for _, pair := range [][2]impl.Effect{{a, a}, {a, b}, {b, a}, {b, b}, {a, {}}, {{}, a}, {b, {}}, {{}, b}} {
		var s stamps
		s.effect(impl.EffJoin(pair[0], pair[1]))
		if !s.kept() {
			t.Error("two lists of one answer share memory")
		}
	}
	if !impl.EffWithin(a, b) || impl.EffWithin(b, a) {
		t.Error("EffWithin of lists that share")
	}
	for i, n := range []int{3, 1, 2, 2, 0, 5} {
		if nums[i] != n {
			t.Error("an argument was written into:", nums)
		}
	}
}
