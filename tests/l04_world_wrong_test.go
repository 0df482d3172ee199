package tests

import (
	"testing"

	"loop.example/g00070/impl"
)

// wrongWorlds holds worlds each of which breaks one rule of WorldOk.
func wrongWorlds() []regWorld {
	var list []regWorld
	list = append(list, wrongByReg()...)
	list = append(list, wrongByThings()...)
	list = append(list, wrongByTables()...)
	list = append(list, wrongByValues()...)
	return append(list, wrongByRows()...)
}

// turned is handWorld with one step done to it.
func turned(what string, step func(w *impl.World)) regWorld {
	w := cloneWorld(handWorld())
	step(&w)
	return regWorld{what, worldReg(), w}
}

func wrongByReg() []regWorld {
	steps := []func(r *impl.Reg){
		func(r *impl.Reg) { r.Comps[3].Name = "Hp" },
		func(r *impl.Reg) { r.Evts[0].Name = "Hp" },
		func(r *impl.Reg) { r.Evts[0].Name = "let" },
		func(r *impl.Reg) { r.Evts[0].Kind = 5 },
		func(r *impl.Reg) { r.Ress[0].Name = "" },
		func(r *impl.Reg) { r.Evts = decls("E", impl.MaxDecls+1) },
		func(r *impl.Reg) { r.Comps = append(r.Comps, decls("N", impl.MaxDecls-3)...) },
	}
	var list []regWorld
	for _, step := range steps {
		r := cloneReg(worldReg())
		step(&r)
		list = append(list, regWorld{"the Reg", r, handWorld()})
	}
	kind := regWorld{"the Reg's kind", cloneReg(worldReg()), handWorld()}
	kind.r.Ress[0].Kind, kind.w.Res[0].Kind = 0, 0
	list = append(list, kind, regWorld{"the Reg of an empty world", impl.Reg{Evts: []impl.Decl{{}}}, impl.World{}})
	return list
}

func wrongByThings() []regWorld {
	list := []regWorld{
		turned("a generation below 0", func(w *impl.World) { w.Ents.Gens[6] = -1 }),
		turned("a generation too great", func(w *impl.World) { w.Ents.Gens[2] = impl.MaxGen + 1 }),
		turned("free twice", func(w *impl.World) { w.Ents.Free = []int{6, 2, 6} }),
		turned("free behind the places", func(w *impl.World) { w.Ents.Free = []int{6, 2, 9} }),
		turned("free below 0", func(w *impl.World) { w.Ents.Free = []int{-1, 6, 2} }),
		turned("all of its things gone", func(w *impl.World) { w.Ents = impl.Ents{} }),
		{"too many things", worldReg(), crowd(impl.MaxEnts + 1)},
	}
	for _, p := range wrongEnts() {
		w := impl.World{Ents: p, Res: handWorld().Res}
		list = append(list, regWorld{"things", worldReg(), w})
	}
	return list
}

func wrongByTables() []regWorld {
	empty := func(cols ...int) func(w *impl.World) {
		return func(w *impl.World) {
			w.Tables = append(w.Tables, impl.Table{Cols: cols, Cells: make([][]impl.Val, len(cols))})
		}
	}
	return []regWorld{
		{"a table too many", wideReg(), manyTables(impl.MaxTables + 1)},
		{"many tables too many", wideReg(), manyTables(100)},
		turned("columns that fall", empty(colMass, colPos)),
		turned("columns that fall at the end", empty(colHp, colMass, colPos)),
		turned("a column twice", empty(colMass, colMass)),
		turned("a column twice behind others", empty(colHp, colPos, colPos)),
		turned("a column below 0", empty(-1)),
		turned("a column far below 0", empty(leastInt, colHp)),
		turned("a column behind the last one", empty(colOn+1)),
		turned("a column far behind the last one", empty(colHp, mostInt)),
		turned("the first column with a row", func(w *impl.World) { w.Tables[0].Cols[0] = -1 }),
		turned("columns that fall, with rows", func(w *impl.World) {
			w.Tables[4].Cols = []int{colOn, colHp}
			w.Tables[4].Cells[0], w.Tables[4].Cells[1] = w.Tables[4].Cells[1], w.Tables[4].Cells[0]
		}),
		turned("two tables with the same columns", empty(colHp, colMass)),
		turned("two tables with one column", empty(colPos)),
		turned("two tables without columns", empty()),
		turned("too few lists", func(w *impl.World) { w.Tables[4].Cells = w.Tables[4].Cells[:1] }),
		turned("no list", func(w *impl.World) { w.Tables[1].Cells = nil }),
		turned("too many lists", func(w *impl.World) { w.Tables[1].Cells = append(w.Tables[1].Cells, nil) }),
		turned("a list without a column", func(w *impl.World) { w.Tables[3].Cells = [][]impl.Val{{whole(1)}} }),
		turned("an empty list without a column", func(w *impl.World) { w.Tables[3].Cells = [][]impl.Val{nil} }),
		turned("too few values", func(w *impl.World) { w.Tables[4].Cells[1] = w.Tables[4].Cells[1][:1] }),
		turned("no values", func(w *impl.World) { w.Tables[2].Cells[0] = nil }),
		turned("too many values", func(w *impl.World) { w.Tables[0].Cells[0] = append(w.Tables[0].Cells[0], whole(1)) }),
		turned("a value without a row", func(w *impl.World) { w.Tables[1].Cells[0] = []impl.Val{pair(1, 1)} }),
	}
}

// wrongByValues puts a wrong value, or one of another kind, into each cell and
// each resource.
func wrongByValues() []regWorld {
	list := []regWorld{
		turned("no resources", func(w *impl.World) { w.Res = nil }),
		turned("a resource too few", func(w *impl.World) { w.Res = w.Res[:2] }),
		turned("a resource too many", func(w *impl.World) { w.Res = append(w.Res, pair(0, 0)) }),
		{"a resource that the Reg has not", impl.Reg{}, impl.World{Res: []impl.Val{whole(0)}}},
	}
	bad := []impl.Val{{}, {Kind: 5}, whole(1), float(1), pair(1, 1), yesNo(true)}
	for _, kind := range []int{impl.KInt, impl.KReal, impl.KPair, impl.KBool} {
		bad = append(bad, impl.Val{Kind: kind, I: 2, X: 1}, impl.Val{Kind: kind, I: -1, Y: negZero})
	}
	for _, v := range bad {
		for at, tab := range handWorld().Tables {
			for i := range tab.Cells {
				for row, was := range tab.Cells[i] {
					if v.Kind != was.Kind || !impl.ValOk(v) {
						list = append(list, turned("a value", func(w *impl.World) { w.Tables[at].Cells[i][row] = v }))
					}
				}
			}
		}
		for i, was := range handWorld().Res {
			if v.Kind != was.Kind || !impl.ValOk(v) {
				list = append(list, turned("a resource", func(w *impl.World) { w.Res[i] = v }))
			}
		}
	}
	return list
}

func wrongByRows() []regWorld {
	var list []regWorld
	for at, tab := range handWorld().Tables {
		for row := range tab.Rows {
			for _, e := range append(strangers(handWorld().Ents), ent(5, 2), ent(7, 0), ent(3, 1)) {
				if e != tab.Rows[row] {
					list = append(list, turned("a row", func(w *impl.World) { w.Tables[at].Rows[row] = e }))
				}
			}
			list = append(list, turned("a thing that stands nowhere", func(w *impl.World) { cut(&w.Tables[at], row) }))
		}
	}
	return append(list,
		turned("a new thing that stands nowhere", func(w *impl.World) { w.Ents.Gens = append(w.Ents.Gens, 0) }),
		turned("a free place that is not free any more", func(w *impl.World) { w.Ents.Free = w.Ents.Free[:1] }),
		turned("a thing that is free", func(w *impl.World) { w.Ents.Free = append(w.Ents.Free, 1) }),
		turned("twice in one table", func(w *impl.World) { w.Tables[3].Rows = append(w.Tables[3].Rows, ent(1, 0)) }),
		turned("twice in two tables", func(w *impl.World) { w.Tables[3].Rows = append(w.Tables[3].Rows, ent(3, 1)) }),
		turned("twice, behind", func(w *impl.World) { w.Tables[3].Rows = append(w.Tables[3].Rows, ent(4, 0)) }),
		turned("a free one", func(w *impl.World) { w.Tables[3].Rows = append(w.Tables[3].Rows, ent(2, 7)) }),
		turned("nobody's row", func(w *impl.World) { w.Tables[3].Rows = append(w.Tables[3].Rows, ent(9, 0)) }),
		turned("no tables", func(w *impl.World) { w.Tables = nil }),
		regWorld{"a thing without a table", impl.Reg{}, impl.World{Ents: ents([]int{0})}},
		regWorld{"a row without a thing", impl.Reg{}, impl.World{Tables: []impl.Table{table(nil, []impl.Ent{ent(0, 0)})}}},
	)
}

// cut takes a row out of a table, with its values.
func cut(t *impl.Table, row int) {
	t.Rows = append(t.Rows[:row:row], t.Rows[row+1:]...)
	for i, list := range t.Cells {
		t.Cells[i] = append(list[:row:row], list[row+1:]...)
	}
}

// anyChanges holds changes that a right world would take, and some that it
// would refuse.
func anyChanges() []change {
	return []change{
		spawning(), spawning(cell(colHp, whole(1))), spawning(cell(99, whole(1))),
		spawning(cell(colHp, whole(1)), cell(colHp, whole(2))),
		killing(ent(1, 0)), killing(ent(5, 2)), killing(ent(2, 7)), killing(ent(-1, 0)),
		putting(ent(5, 2), colHp, whole(1)), putting(ent(1, 0), colPos, pair(1, 1)), putting(ent(2, 7), colHp, whole(1)), putting(ent(1, 0), -1, whole(1)),
		dropping(ent(5, 2), colHp), dropping(ent(1, 0), colHp), dropping(ent(2, 7), colHp), dropping(ent(1, 0), 99),
		setting(ent(5, 2), colHp, whole(1)), setting(ent(1, 0), colHp, whole(1)), setting(ent(2, 7), colHp, whole(1)), setting(ent(5, 2), colHp, yesNo(true)),
	}
}

func TestWrongWorldsAreRefused(t *testing.T) {
	list := wrongWorlds()
	if len(list) < 300 {
		t.Fatal("too few", len(list))
	}
	for _, c := range list {
		if impl.WorldOk(c.r, c.w) {
			t.Errorf("right: %s: %+v", c.what, c.w)
		}
		for _, change := range anyChanges() {
			refused(t, c.what, c.r, c.w, change, impl.WBad)
		}
		for _, e := range []impl.Ent{ent(5, 2), ent(3, 1), ent(1, 0), ent(0, 0), ent(-1, 0)} {
			for comp := -1; comp < 5; comp++ {
				if v, ok := impl.Get(c.r, c.w, e, comp); ok || v != (impl.Val{}) {
					t.Error(c.what, "got", e, comp, v)
				}
			}
		}
	}
}

// Each step is of use only as long as handWorld is right without it.
func TestRightWithoutTheStep(t *testing.T) {
	if c := turned("nothing", func(*impl.World) {}); !impl.WorldOk(c.r, c.w) {
		t.Error("not right")
	}
}

var noComps = []int{-1, leastInt, colOn + 1, impl.MaxDecls, mostInt}

func TestColumnsAndValuesThatAreNone(t *testing.T) {
	r, w := worldReg(), handWorld()
	for _, e := range []impl.Ent{ent(5, 2), ent(1, 0), ent(3, 1), ent(2, 7), ent(-1, 0), ent(99, 0)} {
		for _, comp := range noComps {
			refused(t, "no column", r, w, dropping(e, comp), impl.WBad)
			for _, v := range []impl.Val{whole(1), float(1), pair(1, 1), yesNo(true), {}} {
				refused(t, "no column", r, w, putting(e, comp, v), impl.WBad)
				refused(t, "no column", r, w, setting(e, comp, v), impl.WBad)
				refused(t, "no column", r, w, spawning(cell(colHp, whole(2)), cell(comp, v)), impl.WBad)
			}
			if v, ok := impl.Get(r, w, e, comp); ok || v != (impl.Val{}) {
				t.Error("got", e, comp, v)
			}
		}
		for comp, d := range r.Comps {
			for _, v := range append(wrongValues(), whole(1), float(1), pair(1, 1), yesNo(true)) {
				if v.Kind == d.Kind && impl.ValOk(v) {
					continue
				}
				refused(t, "no value", r, w, putting(e, comp, v), impl.WBad)
				refused(t, "no value", r, w, setting(e, comp, v), impl.WBad)
				refused(t, "no value", r, w, spawning(cell(comp, v)), impl.WBad)
			}
		}
	}
	refused(t, "no columns at all", impl.Reg{}, impl.World{}, spawning(cell(0, whole(1))), impl.WBad)
}

func TestSpawnWithAColumnTwice(t *testing.T) {
	r, w := worldReg(), handWorld()
	hp, other, mass, on := cell(colHp, whole(1)), cell(colHp, whole(2)), cell(colMass, float(1)), cell(colOn, yesNo(true))
	for _, list := range [][]impl.Cell{{hp, hp}, {hp, other}, {hp, mass, other}, {mass, on, hp, mass}, {on, hp, on}, {hp, hp, hp}} {
		refused(t, "twice", r, w, spawning(list...), impl.WBad)
	}
	var most, more []impl.Cell
	for i := range impl.MaxDecls {
		most = append(most, cell(impl.MaxDecls-1-i, whole(i)))
	}
	more = append(append(more, most...), cell(0, whole(5)))
	q, e, code := impl.Spawn(wideReg(), impl.World{}, most)
	if code != impl.WDone || e != ent(0, 0) || len(q.Tables[0].Cols) != impl.MaxDecls || q.Tables[0].Cells[11][0] != whole(0) {
		t.Error("as many as there can be", q, code)
	}
	refused(t, "one more", wideReg(), impl.World{}, spawning(more...), impl.WBad)
}

func TestDeadThings(t *testing.T) {
	for _, c := range rightWorlds()[:6] {
		for _, e := range strangers(c.w.Ents) {
			refused(t, c.what, c.r, c.w, killing(e), impl.WDead)
			refused(t, c.what, c.r, c.w, putting(e, 0, whole(1)), impl.WDead)
			refused(t, c.what, c.r, c.w, dropping(e, 0), impl.WDead)
			refused(t, c.what, c.r, c.w, setting(e, 0, whole(1)), impl.WDead)
		}
	}
	refused(t, "nothing there", impl.Reg{}, impl.World{}, killing(ent(0, 0)), impl.WDead)
}

func TestColumnsThatAThingHasNot(t *testing.T) {
	r, w := worldReg(), handWorld()
	vals := []impl.Val{whole(1), pair(1, 1), float(1), yesNo(true)}
	lacks := 0
	for _, tab := range w.Tables {
		for _, e := range tab.Rows {
			for comp, v := range vals {
				if _, ok := impl.Get(r, w, e, comp); !ok {
					lacks++
					refused(t, "lack", r, w, dropping(e, comp), impl.WLack)
					refused(t, "lack", r, w, setting(e, comp, v), impl.WLack)
				}
			}
		}
	}
	if lacks != 14 {
		t.Error("lacks", lacks)
	}
}

func TestTablesUpToTheLastOne(t *testing.T) {
	r := wideReg()
	almost, full := manyTables(impl.MaxTables-1), manyTables(impl.MaxTables)
	two := []impl.Cell{cell(11, whole(1)), cell(3, whole(2))}
	for _, c := range []change{spawning(two...), putting(ent(1, 0), 11, whole(5)), dropping(ent(38, 0), 1)} {
		w := almost
		if c.what == "drop" { // the table without the column must be a new one
			w = cloneWorld(almost)
			w.Tables[36].Cols, w.Tables[36].Cells = subset(1<<11), w.Tables[36].Cells[:1]
		}
		q, _, code := c.do(r, w)
		if code != impl.WDone || len(q.Tables) != impl.MaxTables || !impl.WorldOk(r, q) {
			t.Error("the last table:", c.what, code, len(q.Tables))
		}
	}
	refused(t, "one table more", r, full, spawning(two...), impl.WFull)
	refused(t, "one table more", r, full, putting(ent(1, 0), 11, whole(5)), impl.WFull)
	refused(t, "one table more", r, full, putting(ent(0, 0), 6, whole(5)), impl.WFull)
	w := cloneWorld(full)
	w.Tables[36].Cols, w.Tables[36].Cells = subset(1<<11), w.Tables[36].Cells[:1]
	refused(t, "one table more", r, w, dropping(ent(38, 0), 1), impl.WFull)
	refused(t, "one table more", r, w, dropping(ent(37, 0), 0), impl.WFull)
	refused(t, "lack ahead of full", r, w, dropping(ent(37, 0), 1), impl.WLack)
	refused(t, "dead ahead of full", r, w, dropping(ent(37, 1), 0), impl.WDead)
	refused(t, "dead ahead of full", r, full, putting(ent(1, 9), 11, whole(5)), impl.WDead)
	refused(t, "bad ahead of full", r, full, putting(ent(1, 0), 11, float(5)), impl.WBad)
	refused(t, "bad ahead of full", r, full, spawning(cell(11, whole(1)), cell(3, float(2))), impl.WBad)
}

// A table that is there already can be gone to, however many there are.
func TestTablesThatAreThereStayOpen(t *testing.T) {
	r, full := wideReg(), manyTables(impl.MaxTables)
	for n := range impl.MaxTables {
		var list []impl.Cell
		for _, comp := range subset(n) {
			list = append(list, cell(comp, whole(7)))
		}
		q, e, code := impl.Spawn(r, full, list)
		at, row := impl.Where(q, e)
		if code != impl.WDone || at != n || row != 1 || !impl.WorldOk(r, q) {
			t.Error("spawn", n, code, at, row)
		}
		for comp := range 5 {
			to := n ^ 1<<comp
			if to >= impl.MaxTables {
				continue
			}
			if to > n {
				q, code = impl.Put(r, full, ent(n, 0), comp, whole(7))
			} else {
				q, code = impl.Drop(r, full, ent(n, 0), comp)
			}
			at, row := impl.Where(q, ent(n, 0))
			if code != impl.WDone || at != to || row != 1 || len(q.Tables) != impl.MaxTables || !impl.WorldOk(r, q) {
				t.Error("to and fro", n, comp, code, at, row)
			}
		}
	}
}

func TestThingsUpToTheLastOne(t *testing.T) {
	r := worldReg()
	full := crowd(impl.MaxEnts)
	refused(t, "full", r, full, spawning(cell(colHp, whole(1))), impl.WFull)
	refused(t, "full, and no such table", r, full, spawning(cell(colOn, yesNo(true))), impl.WFull)
	refused(t, "bad ahead of full", r, full, spawning(cell(colOn, whole(1))), impl.WBad)
	last, e, code := impl.Spawn(r, crowd(impl.MaxEnts-1), []impl.Cell{cell(colHp, whole(1))})
	if code != impl.WDone || e != ent(impl.MaxEnts-1, 0) || !impl.WorldOk(r, last) {
		t.Error("the last thing", e, code)
	}
	w, code := impl.Kill(r, full, ent(77, 2))
	if code != impl.WDone || w.Tables[0].Rows[77] != ent(1999, 4) {
		t.Fatal("one leaves", code)
	}
	w, e, code = impl.Spawn(r, w, nil)
	if code != impl.WDone || e != ent(77, 3) || !impl.WorldOk(r, w) {
		t.Error("and another one comes", e, code)
	}
}
