package tests

import (
	"testing"

	"loop.example/g00070/impl"
)

// sameMemory tells whether two lists are one: as long, as roomy, in one place.
func sameMemory[T any](a, b []T) bool {
	if len(a) != len(b) || cap(a) != cap(b) {
		return false
	}
	return cap(a) == 0 || &a[:1][0] == &b[:1][0]
}

// guards holds all lists of an argument, however deep they lie in it.
type guards []interface{ kept() bool }

func guardIn[T any](g *guards, list []T, mark T, alike func(a, b T) bool) []T {
	one := guardedBy(list, mark, alike)
	*g = append(*g, one)
	return one.list()
}

func sameInt(a, b int) bool { return a == b }

func sameEnt(a, b impl.Ent) bool { return a == b }

func sameCell(a, b impl.Cell) bool { return a.Comp == b.Comp && same(a.Val, b.Val) }

func sameDecl(a, b impl.Decl) bool { return a == b }

func sameTableMemory(a, b impl.Table) bool {
	return sameMemory(a.Cols, b.Cols) && sameMemory(a.Rows, b.Rows) && sameMemory(a.Cells, b.Cells)
}

// roomyWorld is w with room ahead of each list and behind it, full of what a
// world might take for its own.
func (g *guards) roomyWorld(w impl.World) impl.World {
	var q impl.World
	q.Ents.Gens = guardIn(g, w.Ents.Gens, 1, sameInt)
	q.Ents.Free = guardIn(g, w.Ents.Free, 0, sameInt)
	q.Res = guardIn(g, w.Res, whole(5), same)
	var tables []impl.Table
	for _, t := range w.Tables {
		var cells [][]impl.Val
		for _, list := range t.Cells {
			cells = append(cells, guardIn(g, list, whole(6), same))
		}
		tables = append(tables, impl.Table{
			Cols:  guardIn(g, t.Cols, 3, sameInt),
			Rows:  guardIn(g, t.Rows, ent(0, 4), sameEnt),
			Cells: guardIn(g, cells, []impl.Val{whole(7)}, sameMemory[impl.Val]),
		})
	}
	spare := impl.Table{Rows: []impl.Ent{ent(1, 0)}}
	q.Tables = guardIn(g, tables, spare, sameTableMemory)
	return q
}

func (g *guards) roomyReg(r impl.Reg) impl.Reg {
	return impl.Reg{
		Comps: guardIn(g, r.Comps, decl("spare", impl.KInt), sameDecl),
		Ress:  guardIn(g, r.Ress, decl("extra", impl.KInt), sameDecl),
		Evts:  guardIn(g, r.Evts, decl("other", impl.KInt), sameDecl),
	}
}

func (g *guards) kept() bool {
	for _, one := range *g {
		if !one.kept() {
			return false
		}
	}
	return true
}

// stamps writes a number of its own all over each list of answers; a list that
// shares memory with another one has lost its number behind all.
type stamps struct {
	count int
	looks []func() bool
}

func stamp[T any](s *stamps, list []T, with func(n int) T, tell func(v T) int) {
	s.count++
	n := s.count
	list = list[:cap(list)]
	scribble(list, with(n))
	s.looks = append(s.looks, func() bool {
		for _, v := range list {
			if tell(v) != n {
				return false
			}
		}
		return true
	})
}

func (s *stamps) ints(list []int) {
	stamp(s, list, func(n int) int { return -n }, func(v int) int { return -v })
}

func (s *stamps) ents(list []impl.Ent) {
	stamp(s, list, func(n int) impl.Ent { return ent(-1, n) }, func(v impl.Ent) int { return v.Gen })
}

func (s *stamps) vals(list []impl.Val) {
	stamp(s, list, func(n int) impl.Val { return impl.Val{Kind: -1, I: n} }, func(v impl.Val) int { return v.I })
}

func firstOf[T any](list []T) T {
	if len(list) == 0 {
		var none T
		return none
	}
	return list[0]
}

func (s *stamps) world(w impl.World) {
	s.ints(w.Ents.Gens)
	s.ints(w.Ents.Free)
	s.vals(w.Res)
	for _, t := range w.Tables {
		s.ints(t.Cols)
		s.ents(t.Rows)
		for _, list := range t.Cells {
			s.vals(list)
		}
		stamp(s, t.Cells, func(n int) []impl.Val { return []impl.Val{whole(n)} }, func(v []impl.Val) int { return firstOf(v).I })
	}
	stamp(s, w.Tables, func(n int) impl.Table { return impl.Table{Cols: []int{n}} }, func(v impl.Table) int { return firstOf(v.Cols) })
}

func (s *stamps) kept() bool {
	for _, look := range s.looks {
		if !look() {
			return false
		}
	}
	return true
}

// memoryWorlds holds right worlds and wrong ones, as many as there is time for.
func memoryWorlds() []regWorld {
	list := rightWorlds()
	for i, c := range wrongWorlds() {
		if i < 60 || i%9 == 0 {
			list = append(list, c)
		}
	}
	return list
}

// changesOf holds changes of every sort and code for that world.
func changesOf(c regWorld) []change {
	list := anyChanges()
	for _, t := range c.w.Tables {
		for _, e := range t.Rows[:min(2, len(t.Rows))] {
			list = append(list, killing(e), putting(e, 0, whole(4)), putting(e, colOn, yesNo(true)), setting(e, 0, whole(4)), dropping(e, 0))
		}
	}
	return list[:min(60, len(list))]
}

func TestChangesLeaveTheArgumentAlone(t *testing.T) {
	for _, c := range memoryWorlds() {
		var g guards
		r, w := g.roomyReg(c.r), g.roomyWorld(c.w)
		s := &stamps{}
		s.world(impl.NewWorld(r))
		for _, change := range changesOf(c) {
			plain, e, code := change.do(c.r, c.w)
			q, f, other := change.do(r, w)
			if e != f || code != other || !sameWorld(q, plain) {
				t.Fatal("spare room is looked at:", c.what, change.what, code, other)
			}
			s.world(q)
		}
		if !g.kept() {
			t.Error("the argument was written into, or shares memory with an answer:", c.what)
		}
		if !s.kept() {
			t.Error("two lists of answers share memory:", c.what)
		}
	}
}

func TestQuestionsLeaveTheArgumentAlone(t *testing.T) {
	for _, c := range memoryWorlds() {
		var g guards
		w := g.roomyWorld(c.w)
		with, without := guardIn(&g, []int{colMass, colHp}, colOn, sameInt), guardIn(&g, []int{colPos}, colHp, sameInt)
		if impl.WorldOk(c.r, w) != impl.WorldOk(c.r, c.w) || !impl.WorldSame(w, c.w) || !impl.WorldSame(c.w, w) {
			t.Error("spare room is looked at:", c.what)
		}
		s := &stamps{}
		s.ents(impl.Match(w, nil, nil))
		s.ents(impl.Match(w, nil, nil))
		s.ents(impl.Match(w, with, without))
		s.ents(impl.Match(w, nil, without))
		for at := -1; at < 6; at++ {
			impl.Where(w, ent(at, 0))
			impl.Get(c.r, w, ent(5, 2), at)
		}
		if i, k := impl.Where(impl.World{Tables: w.Tables[:0]}, ent(1, 0)); i != -1 || k != -1 {
			t.Error("spare room is looked at by Where:", c.what)
		}
		if !g.kept() || !s.kept() {
			t.Error("memory is shared or written into:", c.what)
		}
	}
}

func TestSpawnLeavesTheListAlone(t *testing.T) {
	lists := [][]impl.Cell{
		{cell(colOn, yesNo(true)), cell(colMass, float(nan)), cell(colHp, whole(3))},
		{cell(colMass, float(2)), cell(colHp, whole(3))},
		{cell(colHp, whole(3)), cell(colHp, whole(4))},
		{cell(9, whole(3)), cell(colHp, whole(4))},
		{},
	}
	for i, list := range lists {
		var g guards
		roomy := guardIn(&g, list, cell(colPos, pair(1, 1)), sameCell)
		a, e, code := impl.Spawn(worldReg(), handWorld(), list)
		b, f, other := impl.Spawn(worldReg(), handWorld(), roomy)
		if !sameWorld(a, b) || e != f || code != other || !g.kept() {
			t.Error("list", i, code, other)
		}
		s := &stamps{}
		s.world(a)
		s.world(b)
		if !s.kept() || !g.kept() {
			t.Error("memory is shared", i)
		}
	}
}

// Lists of one argument may lie in one memory; an answer's may not.
func TestListsThatShareInTheArgument(t *testing.T) {
	r := impl.Reg{Comps: []impl.Decl{decl("A", impl.KInt), decl("B", impl.KInt)}}
	vals := []impl.Val{whole(1), whole(2), whole(3)}
	nums := []int{0, 1, 0, 1}
	w := impl.World{
		Ents:   impl.Ents{Gens: nums[:3]},
		Tables: []impl.Table{{Cols: nums[:2], Rows: []impl.Ent{ent(0, 0), ent(1, 1)}, Cells: [][]impl.Val{vals[:2], vals[:2]}}, {Cols: nums[:1], Rows: []impl.Ent{ent(2, 0)}, Cells: [][]impl.Val{vals[2:]}}},
	}
	for _, c := range []change{spawning(), spawning(cell(1, whole(9)), cell(0, whole(8))), killing(ent(0, 0)), killing(ent(5, 5)), putting(ent(2, 0), 1, whole(9)), putting(ent(0, 0), 0, whole(9)), dropping(ent(1, 1), 0), setting(ent(1, 1), 1, whole(9))} {
		was := cloneWorld(w)
		want, _, code := c.do(r, was)
		q, _, other := c.do(r, w)
		if code != other || !sameWorld(q, want) || !sameWorld(w, was) {
			t.Error(c.what, code, other, q)
		}
		s := &stamps{}
		s.world(q)
		if !s.kept() || !sameWorld(w, was) {
			t.Error("memory is shared", c.what)
		}
	}
}
