package tests

import (
	"slices"
	"testing"

	"loop.example/g00070/impl"
)

// The columns of worldReg.
const (
	colHp = iota
	colPos
	colMass
	colOn
)

// worldReg has a column of every kind.
func worldReg() impl.Reg {
	return impl.Reg{
		Comps: []impl.Decl{decl("Hp", impl.KInt), decl("Pos", impl.KPair), decl("Mass", impl.KReal), decl("On", impl.KBool)},
		Ress:  []impl.Decl{decl("Score", impl.KInt), decl("Over", impl.KBool), decl("Wind", impl.KPair)},
		Evts:  []impl.Decl{decl("Hit", impl.KInt)},
	}
}

// wideReg has as many columns as there can be, all of whole numbers.
func wideReg() impl.Reg {
	r := impl.Reg{Comps: decls("C", impl.MaxDecls)}
	for i := range r.Comps {
		r.Comps[i].Kind = impl.KInt
	}
	return r
}

func cell(comp int, v impl.Val) impl.Cell { return impl.Cell{Comp: comp, Val: v} }

func table(cols []int, rows []impl.Ent, cells ...[]impl.Val) impl.Table {
	return impl.Table{Cols: cols, Rows: rows, Cells: cells}
}

// handWorld has tables with several rows, with one, with none and without
// columns, and places that are free.
func handWorld() impl.World {
	return impl.World{
		Ents: ents([]int{4, 0, 7, 1, 0, 2, 9, 0, 3}, 6, 2),
		Tables: []impl.Table{
			table([]int{colHp, colMass}, []impl.Ent{ent(3, 1), ent(0, 4), ent(8, 3)},
				[]impl.Val{whole(30), whole(-1), whole(80)}, []impl.Val{float(0.3), float(negZero), float(inf)}),
			table([]int{colPos}, nil, nil),
			table([]int{colHp, colPos, colMass, colOn}, []impl.Ent{ent(5, 2)},
				[]impl.Val{whole(50)}, []impl.Val{pair(5, -5)}, []impl.Val{float(0.5)}, []impl.Val{yesNo(true)}),
			table(nil, []impl.Ent{ent(1, 0)}),
			table([]int{colHp, colOn}, []impl.Ent{ent(7, 0), ent(4, 0)},
				[]impl.Val{whole(70), whole(40)}, []impl.Val{yesNo(false), yesNo(true)}),
		},
		Res: []impl.Val{whole(1000), yesNo(true), pair(negZero, 2)},
	}
}

// subset holds the columns whose bits are set in n.
func subset(n int) []int {
	var cols []int
	for i := range impl.MaxDecls {
		if n>>i&1 == 1 {
			cols = append(cols, i)
		}
	}
	return cols
}

// manyTables has n tables of wideReg, of the columns subset(0), subset(1) and
// so on, with a thing in each, whose values tell the table and the column.
func manyTables(n int) impl.World {
	w := impl.World{Ents: ents(make([]int, n))}
	for i := range n {
		t := table(subset(i), []impl.Ent{ent(i, 0)})
		for _, comp := range t.Cols {
			t.Cells = append(t.Cells, []impl.Val{whole(100*i + comp)})
		}
		w.Tables = append(w.Tables, t)
	}
	return w
}

// crowd has n things in one table of the first column of worldReg.
func crowd(n int) impl.World {
	w := impl.NewWorld(worldReg())
	t := table([]int{colHp}, nil, nil)
	for i := range n {
		t.Rows = append(t.Rows, ent(i, i%5))
		t.Cells[0] = append(t.Cells[0], whole(i))
		w.Ents.Gens = append(w.Ents.Gens, i%5)
	}
	w.Tables = []impl.Table{t}
	return w
}

// regWorld is a world by its Reg; what tells which one it is.
type regWorld struct {
	what string
	r    impl.Reg
	w    impl.World
}

// rightWorlds holds worlds from empty ones to full ones.
func rightWorlds() []regWorld {
	r := worldReg()
	list := []regWorld{
		{"by hand", r, handWorld()},
		{"crowd of one", r, crowd(1)},
		{"crowd of ten", r, crowd(10)},
		{"one table", wideReg(), manyTables(1)},
		{"most tables but one", wideReg(), manyTables(impl.MaxTables - 1)},
		{"most tables", wideReg(), manyTables(impl.MaxTables)},
		{"full crowd", r, crowd(impl.MaxEnts)},
		{"nothing at all", impl.Reg{}, impl.World{}},
		{"a thing without any column", impl.Reg{}, impl.World{Ents: ents([]int{3}), Tables: []impl.Table{table(nil, []impl.Ent{ent(0, 3)})}}},
		{"all free", r, impl.World{Ents: ents([]int{5, 6}, 1, 0), Tables: []impl.Table{table([]int{colOn}, nil, nil)}, Res: handWorld().Res}},
		{"last column", wideReg(), impl.World{Ents: ents([]int{0}), Tables: []impl.Table{table([]int{11}, []impl.Ent{ent(0, 0)}, []impl.Val{whole(1)})}}},
		{"all columns", wideReg(), allColumns()},
		{"NaNs", r, withNaNs()},
	}
	for _, reg := range rightRegs() {
		list = append(list, regWorld{"new", reg, impl.NewWorld(reg)})
	}
	return list
}

func allColumns() impl.World {
	t := table(upTo(impl.MaxDecls), []impl.Ent{ent(1, 8), ent(0, 0)})
	for i := range impl.MaxDecls {
		t.Cells = append(t.Cells, []impl.Val{whole(i), whole(-i)})
	}
	return impl.World{Ents: ents([]int{0, 8}), Tables: []impl.Table{t}}
}

func withNaNs() impl.World {
	w := handWorld()
	w.Tables[0].Cells[1] = []impl.Val{float(nan), float(otherNaN), float(0)}
	w.Tables[2].Cells[1][0] = pair(otherNaN, nan)
	w.Res[2] = pair(nan, negZero)
	return w
}

// cloneWorld does without the program's own way of copying.
func cloneWorld(w impl.World) impl.World {
	q := impl.World{Ents: impl.Ents{Gens: slices.Clone(w.Ents.Gens), Free: slices.Clone(w.Ents.Free)}, Res: slices.Clone(w.Res)}
	for _, t := range w.Tables {
		c := impl.Table{Cols: slices.Clone(t.Cols), Rows: slices.Clone(t.Rows)}
		for _, list := range t.Cells {
			c.Cells = append(c.Cells, slices.Clone(list))
		}
		q.Tables = append(q.Tables, c)
	}
	return q
}

func sameVals(a, b []impl.Val) bool { return slices.EqualFunc(a, b, same) }

// sameWorld does without WorldSame, and takes no NaN for another number.
func sameWorld(a, b impl.World) bool {
	return sameEnts(a.Ents, b.Ents) && sameVals(a.Res, b.Res) &&
		slices.EqualFunc(a.Tables, b.Tables, func(s, t impl.Table) bool {
			return slices.Equal(s.Cols, t.Cols) && slices.Equal(s.Rows, t.Rows) && slices.EqualFunc(s.Cells, t.Cells, sameVals)
		})
}

// change is a call that changes a world, with all but the world in it. Ent is
// what Spawn tells, else the zero value.
type change struct {
	what string
	do   func(r impl.Reg, w impl.World) (impl.World, impl.Ent, int)
}

func spawning(list ...impl.Cell) change {
	return change{"spawn", func(r impl.Reg, w impl.World) (impl.World, impl.Ent, int) { return impl.Spawn(r, w, list) }}
}

func killing(e impl.Ent) change {
	return change{"kill", func(r impl.Reg, w impl.World) (impl.World, impl.Ent, int) {
		q, code := impl.Kill(r, w, e)
		return q, impl.Ent{}, code
	}}
}

func putting(e impl.Ent, comp int, v impl.Val) change {
	return change{"put", func(r impl.Reg, w impl.World) (impl.World, impl.Ent, int) {
		q, code := impl.Put(r, w, e, comp, v)
		return q, impl.Ent{}, code
	}}
}

func dropping(e impl.Ent, comp int) change {
	return change{"drop", func(r impl.Reg, w impl.World) (impl.World, impl.Ent, int) {
		q, code := impl.Drop(r, w, e, comp)
		return q, impl.Ent{}, code
	}}
}

func setting(e impl.Ent, comp int, v impl.Val) change {
	return change{"set", func(r impl.Reg, w impl.World) (impl.World, impl.Ent, int) {
		q, code := impl.Set(r, w, e, comp, v)
		return q, impl.Ent{}, code
	}}
}

// refused asks for a code, and for the world handed back.
func refused(t *testing.T, what string, r impl.Reg, w impl.World, c change, code int) {
	t.Helper()
	was := cloneWorld(w)
	q, e, got := c.do(r, w)
	if got != code || e != (impl.Ent{}) || !sameWorld(q, was) || !sameWorld(w, was) {
		t.Errorf("%s: %s: code %d, not %d; thing %v; handed back: %v", what, c.what, got, code, e, sameWorld(q, was))
	}
}

// leaves asks for a change that is done, and for the world behind it.
func leaves(t *testing.T, what string, r impl.Reg, w impl.World, c change, want impl.World) {
	t.Helper()
	was := cloneWorld(w)
	q, _, code := c.do(r, w)
	if code != impl.WDone || !sameWorld(q, want) || !sameWorld(w, was) {
		t.Errorf("%s: %s: code %d\nhave %+v\nwant %+v", what, c.what, code, q, want)
	}
	if !impl.WorldOk(r, q) {
		t.Errorf("%s: %s: not right behind it: %+v", what, c.what, q)
	}
}
