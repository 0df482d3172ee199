package tests

import (
	"slices"
	"testing"

	"loop.example/g00070/impl"
)

// sameCmd asks that both have one List, not only one like it.
func sameCmd(a, b impl.Cmd) bool {
	return a.Kind == b.Kind && a.Who == b.Who && a.Comp == b.Comp && same(a.Val, b.Val) && sameMemory(a.List, b.List)
}

// roomyBuf is buf with room ahead of each list and behind it, full of commands
// and cells that could be done.
func (g *guards) roomyBuf(buf []impl.Cmd) []impl.Cmd {
	cmds := slices.Clone(buf)
	for i, c := range cmds {
		cmds[i].List = guardIn(g, c.List, cell(colMass, float(1)), sameCell)
	}
	return guardIn(g, cmds, cmdSpawn(cell(colHp, whole(1))), sameCmd)
}

func (g *guards) roomyBufs(bufs [][]impl.Cmd) [][]impl.Cmd {
	var list [][]impl.Cmd
	for _, buf := range bufs {
		list = append(list, g.roomyBuf(buf))
	}
	return guardIn(g, list, []impl.Cmd{cmdSpawn()}, sameMemory[impl.Cmd])
}

func (s *stamps) codes(codes [][]int) {
	for _, list := range codes {
		s.ints(list)
	}
	stamp(s, codes, func(n int) []int { return []int{n} }, func(v []int) int { return firstOf(v) })
}

// memoryBufs holds lists of buffers that are done, and such as are refused.
func memoryBufs() [][][]impl.Cmd {
	list := [][][]impl.Cmd{
		nil, {nil}, {{}, nil}, make([][]impl.Cmd, impl.MaxBufs+1), {make([]impl.Cmd, impl.MaxCmds+1)},
		{rightCmds(), nil, wrongCmds()[:impl.MaxCmds]},
		{{cmdSpawn(), cmdSpawn(cell(colOn, yesNo(true)), cell(colHp, whole(1))), cmdPut(promised(1), colHp, whole(2)), cmdDrop(promised(2), colOn), cmdKill(promised(1))}, {cmdKill(ent(3, 1)), cmdSpawn()}},
	}
	a := startWriter(nil, worldReg(), 5)
	a.w = handWorld()
	for range 4 {
		list = append(list, a.anyBufs(5, 20))
	}
	return list
}

func TestMergeLeavesTheArgumentAlone(t *testing.T) {
	for _, c := range memoryWorlds() {
		var g guards
		r, w := g.roomyReg(c.r), g.roomyWorld(c.w)
		s := &stamps{}
		for i, bufs := range memoryBufs() {
			plain, list, code := impl.Merge(c.r, c.w, bufs)
			q, codes, other := impl.Merge(r, w, g.roomyBufs(bufs))
			if code != other || !sameCodes(list, codes) || !sameWorld(q, plain) {
				t.Fatal("spare room is looked at:", c.what, i)
			}
			s.world(q)
			s.codes(codes)
		}
		if !g.kept() {
			t.Error("the argument was written into, or shares memory with an answer:", c.what)
		}
		if !s.kept() {
			t.Error("two lists of answers share memory:", c.what)
		}
	}
}

func TestQuestionsLeaveTheBufferAlone(t *testing.T) {
	for _, bufs := range memoryBufs() {
		for _, buf := range bufs {
			var g guards
			r, roomy := g.roomyReg(worldReg()), g.roomyBuf(buf)
			s := &stamps{}
			for range 2 {
				list := impl.Targets(roomy)
				if !slices.Equal(list, impl.Targets(buf)) || impl.Spawns(roomy) != impl.Spawns(buf) {
					t.Error("spare room is looked at")
				}
				s.ints(list)
			}
			for i, c := range roomy {
				if impl.CmdOk(r, c) != impl.CmdOk(worldReg(), buf[i]) {
					t.Error("spare room is looked at by CmdOk:", buf[i])
				}
			}
			if !g.kept() || !s.kept() {
				t.Error("memory is shared or written into")
			}
		}
	}
}

// Buffers and cells of one argument may lie in one memory; an answer's lists
// may not.
func TestBuffersThatShareInTheArgument(t *testing.T) {
	r := worldReg()
	cells := []impl.Cell{cell(colOn, yesNo(true)), cell(colHp, whole(1)), cell(colMass, float(2))}
	cmds := []impl.Cmd{cmdSpawn(cells...), cmdSpawn(cells[1:]...), cmdPut(promised(1), colPos, pair(1, 1)), cmdDrop(promised(2), colHp), cmdSpawn(cells[:2]...), cmdKill(promised(1))}
	bufs := [][]impl.Cmd{cmds, cmds[1:], cmds, cmds[:2], cmds[3:]}
	apart := make([][]impl.Cmd, len(bufs))
	for i, buf := range bufs {
		apart[i] = slices.Clone(buf)
		for k, c := range buf {
			apart[i][k].List = slices.Clone(c.List)
		}
	}
	want, list := merged(t, r, handWorld(), apart)
	q, codes := merged(t, r, handWorld(), bufs)
	if !sameWorld(q, want) || !sameCodes(codes, list) {
		t.Error("shared buffers are done in another way")
	}
	s := &stamps{}
	s.world(q)
	s.codes(codes)
	s.ints(impl.Targets(cmds))
	for i, buf := range bufs {
		if !s.kept() || !slices.EqualFunc(buf, apart[i], func(a, b impl.Cmd) bool { return slices.EqualFunc(a.List, b.List, sameCell) && a.Who == b.Who }) {
			t.Error("memory is shared", i)
		}
	}
}

// A world whose lists share memory is handed back in lists that do not.
func TestMergeOfAWorldThatShares(t *testing.T) {
	nums, vals := []int{0, 1, 2}, []impl.Val{whole(1), whole(2)}
	shared := impl.Table{Cols: nums[:2], Rows: []impl.Ent{ent(0, 0)}, Cells: [][]impl.Val{vals, vals}}
	w := impl.World{Ents: impl.Ents{Gens: nums, Free: nums}, Tables: []impl.Table{shared, shared}, Res: vals}
	was := cloneWorld(w)
	q, codes, code := impl.Merge(worldReg(), w, nil)
	if code != impl.WBad || len(codes) != 0 || !sameWorld(q, was) {
		t.Error("not handed back", code)
	}
	s := &stamps{}
	s.world(q)
	if !s.kept() || !sameWorld(w, was) {
		t.Error("memory is shared")
	}
}
