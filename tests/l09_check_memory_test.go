package tests

import (
	"testing"

	"loop.example/g00070/impl"
)

// checkCall is what the three functions tell of a Reg and a tree.
type checkCall struct {
	code, node int
	kinds      [4]int
	tops       [3]int
}

func checkCalls(r impl.Reg, x impl.Tree) checkCall {
	var c checkCall
	c.code, c.node = impl.Check(r, x)
	for i, node := range []int{-1, 0, len(x.Nodes) / 2, len(x.Nodes)} {
		c.kinds[i] = impl.KindOf(r, x, node)
	}
	for i, name := range []string{"s", "f", "spare"} {
		c.tops[i] = impl.TopOf(x, name)
	}
	return c
}

// The arguments, with room behind each of their lists, are as they were behind
// each call; and a second call tells the same.
func TestCheckLeavesTheArgumentsAlone(t *testing.T) {
	trees := memoryTrees()
	w := newAuthor(19)
	for range 150 {
		tops := w.text(3, 2)
		trees = append(trees, treeOf(tops...), treeOf(w.mar(tops)...))
	}
	regs := append(wrongRegs()[:6], checkReg(), worldReg(), impl.Reg{})
	for i, x := range trees {
		for _, r := range []impl.Reg{checkReg(), regs[i%len(regs)]} {
			var g guards
			roomyReg, roomyTree := g.roomyReg(r), g.roomyTree(x)
			first := checkCalls(roomyReg, roomyTree)
			if !g.kept() {
				t.Fatal("an argument was written into", i)
			}
			if checkCalls(r, x) != first || checkCalls(roomyReg, roomyTree) != first {
				t.Fatal("spare room is looked at, or something is kept from call to call", i)
			}
		}
	}
}

// Kids of one argument may lie in one memory.
func TestCheckOfATreeThatSharesInTheArgument(t *testing.T) {
	nums := []int{0, 1, 2, 3}
	x := impl.Tree{
		Nodes: []impl.Node{{Kind: impl.NInt, I: 1}, {Kind: impl.NLet, Text: "a", Kids: nums[:1]}, {Kind: impl.NBlock, Kids: nums[1:2]}, {Kind: impl.NSystem, Text: "s", Kids: nums[2:3]}},
		Tops:  nums[3:],
	}
	if code, node := impl.Check(checkReg(), x); code != impl.ChkDone || node != -1 || impl.KindOf(checkReg(), x, 0) != impl.KInt || impl.TopOf(x, "s") != 3 {
		t.Error("shared kids:", code, node)
	}
	for i, n := range nums {
		if i != n {
			t.Error("written into", nums)
		}
	}
}
