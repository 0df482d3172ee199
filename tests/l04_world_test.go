package tests

import (
	"slices"
	"testing"

	"loop.example/g00070/impl"
)

func TestWorldConstants(t *testing.T) {
	got := []int{impl.MaxTables, impl.WDone, impl.WBad, impl.WDead, impl.WFull, impl.WLack}
	if !slices.Equal(got, []int{40, 0, 1, 2, 3, 4}) {
		t.Error("constants", got)
	}
}

func TestNewWorld(t *testing.T) {
	for _, r := range rightRegs() {
		var want impl.World
		for _, d := range r.Ress {
			want.Res = append(want.Res, impl.Val{Kind: d.Kind})
		}
		w := impl.NewWorld(r)
		if !sameWorld(w, want) || !impl.WorldOk(r, w) {
			t.Errorf("new world of %+v: %+v", r, w)
		}
	}
	for _, r := range wrongRegs() {
		if w := impl.NewWorld(r); !sameWorld(w, impl.World{}) {
			t.Errorf("new world of a wrong Reg %+v: %+v", r, w)
		}
	}
	if w := impl.NewWorld(impl.Reg{Comps: decls("C", 3)}); len(w.Res) != 0 {
		t.Error("no resources", w)
	}
}

func TestRightWorldsAreOk(t *testing.T) {
	for _, c := range rightWorlds() {
		if !impl.WorldOk(c.r, c.w) {
			t.Error("not right:", c.what)
		}
	}
}

func TestSpawnByHand(t *testing.T) {
	r := worldReg()
	hp, mass, pos, on := cell(colHp, whole(20)), cell(colMass, float(0.2)), cell(colPos, pair(2, nan)), cell(colOn, yesNo(true))
	e := ent(2, 7)
	taken := func() impl.World {
		w := handWorld()
		w.Ents.Free = []int{6}
		return w
	}
	w := taken()
	w.Tables[0].Rows = append(w.Tables[0].Rows, e)
	w.Tables[0].Cells[0] = append(w.Tables[0].Cells[0], whole(20))
	w.Tables[0].Cells[1] = append(w.Tables[0].Cells[1], float(0.2))
	leaves(t, "to the end of a table", r, handWorld(), spawning(hp, mass), w)
	leaves(t, "whatever the list's order", r, handWorld(), spawning(mass, hp), w)

	w = taken()
	w.Tables[1] = table([]int{colPos}, []impl.Ent{e}, []impl.Val{pair(2, nan)})
	leaves(t, "to a table without rows", r, handWorld(), spawning(pos), w)

	w = taken()
	w.Tables[3].Rows = append(w.Tables[3].Rows, e)
	leaves(t, "without columns", r, handWorld(), spawning(), w)

	w = taken()
	w.Tables = append(w.Tables, table([]int{colPos, colMass, colOn}, []impl.Ent{e}, []impl.Val{pair(2, nan)}, []impl.Val{float(0.2)}, []impl.Val{yesNo(true)}))
	leaves(t, "to a new table", r, handWorld(), spawning(on, pos, mass), w)

	w = impl.NewWorld(r)
	w.Ents.Gens = []int{0}
	w.Tables = []impl.Table{table(nil, []impl.Ent{ent(0, 0)})}
	leaves(t, "without columns, as the first", r, impl.NewWorld(r), spawning(), w)
}

func TestSpawnTellsTheThing(t *testing.T) {
	r := worldReg()
	w := handWorld()
	for i, want := range []impl.Ent{ent(2, 7), ent(6, 9), ent(9, 0), ent(10, 0)} {
		ahead, _ := impl.EntAhead(w.Ents, 1)
		q, e, code := impl.Spawn(r, w, []impl.Cell{cell(colMass, float(float64(i)))})
		if code != impl.WDone || e != want || ahead[0] != e || !impl.EntLive(q.Ents, e) {
			t.Fatal("thing", i, e, code)
		}
		if at, row := impl.Where(q, e); at != 5 || row != i {
			t.Error("where", i, at, row)
		}
		w = q
	}
}

// killed is handWorld with a thing's place given back.
func killed(at int) impl.World {
	w := handWorld()
	w.Ents.Gens[at]++
	w.Ents.Free = append(w.Ents.Free, at)
	return w
}

func TestKillByHand(t *testing.T) {
	r := worldReg()
	w := killed(3)
	w.Tables[0] = table([]int{colHp, colMass}, []impl.Ent{ent(8, 3), ent(0, 4)}, []impl.Val{whole(80), whole(-1)}, []impl.Val{float(inf), float(negZero)})
	leaves(t, "from the first row", r, handWorld(), killing(ent(3, 1)), w)
	w = killed(0)
	w.Tables[0] = table([]int{colHp, colMass}, []impl.Ent{ent(3, 1), ent(8, 3)}, []impl.Val{whole(30), whole(80)}, []impl.Val{float(0.3), float(inf)})
	leaves(t, "from within", r, handWorld(), killing(ent(0, 4)), w)
	w = killed(8)
	w.Tables[0] = table([]int{colHp, colMass}, []impl.Ent{ent(3, 1), ent(0, 4)}, []impl.Val{whole(30), whole(-1)}, []impl.Val{float(0.3), float(negZero)})
	leaves(t, "from the last row", r, handWorld(), killing(ent(8, 3)), w)
	w = killed(5)
	w.Tables[2] = table([]int{colHp, colPos, colMass, colOn}, nil, nil, nil, nil, nil)
	leaves(t, "the only row", r, handWorld(), killing(ent(5, 2)), w)
	w = killed(1)
	w.Tables[3] = table(nil, nil)
	leaves(t, "without columns", r, handWorld(), killing(ent(1, 0)), w)
}

func TestKillAtTheLastGeneration(t *testing.T) {
	r := impl.Reg{}
	w := impl.World{Ents: ents([]int{impl.MaxGen}), Tables: []impl.Table{table(nil, []impl.Ent{ent(0, impl.MaxGen)})}}
	leaves(t, "generation", r, w, killing(ent(0, impl.MaxGen)), impl.World{Ents: ents([]int{0}, 0), Tables: []impl.Table{table(nil, nil)}})
}

func TestPutByHand(t *testing.T) {
	r := worldReg()
	w := handWorld()
	w.Tables[0].Cells[1][1] = float(nan)
	leaves(t, "a column that it has", r, handWorld(), putting(ent(0, 4), colMass, float(nan)), w)

	w = handWorld()
	w.Tables[0] = table([]int{colHp, colMass}, []impl.Ent{ent(8, 3), ent(0, 4)}, []impl.Val{whole(80), whole(-1)}, []impl.Val{float(inf), float(negZero)})
	w.Tables = append(w.Tables, table([]int{colHp, colPos, colMass}, []impl.Ent{ent(3, 1)}, []impl.Val{whole(30)}, []impl.Val{pair(1, 2)}, []impl.Val{float(0.3)}))
	leaves(t, "between, from the first row", r, handWorld(), putting(ent(3, 1), colPos, pair(1, 2)), w)

	w = handWorld()
	w.Tables[0] = table([]int{colHp, colMass}, []impl.Ent{ent(3, 1), ent(8, 3)}, []impl.Val{whole(30), whole(80)}, []impl.Val{float(0.3), float(inf)})
	w.Tables = append(w.Tables, table([]int{colHp, colMass, colOn}, []impl.Ent{ent(0, 4)}, []impl.Val{whole(-1)}, []impl.Val{float(negZero)}, []impl.Val{yesNo(false)}))
	leaves(t, "behind, from within", r, handWorld(), putting(ent(0, 4), colOn, yesNo(false)), w)

	w = handWorld()
	w.Tables[3] = table(nil, nil)
	w.Tables[1] = table([]int{colPos}, []impl.Ent{ent(1, 0)}, []impl.Val{pair(8, 9)})
	leaves(t, "to a table without rows", r, handWorld(), putting(ent(1, 0), colPos, pair(8, 9)), w)

	leaves(t, "ahead, to a new table", r, w, putting(ent(1, 0), colHp, whole(6)), func() impl.World {
		w := handWorld()
		w.Tables[3] = table(nil, nil)
		w.Tables = append(w.Tables, table([]int{colHp, colPos}, []impl.Ent{ent(1, 0)}, []impl.Val{whole(6)}, []impl.Val{pair(8, 9)}))
		return w
	}())
}

func TestDropByHand(t *testing.T) {
	r := worldReg()
	w := handWorld()
	w.Tables[2] = table([]int{colHp, colPos, colMass, colOn}, nil, nil, nil, nil, nil)
	without := func(cols []int, vals ...[]impl.Val) impl.World {
		q := cloneWorld(w)
		q.Tables = append(q.Tables, table(cols, []impl.Ent{ent(5, 2)}, vals...))
		return q
	}
	hp, pos, mass, on := []impl.Val{whole(50)}, []impl.Val{pair(5, -5)}, []impl.Val{float(0.5)}, []impl.Val{yesNo(true)}
	leaves(t, "the first column", r, handWorld(), dropping(ent(5, 2), colHp), without([]int{colPos, colMass, colOn}, pos, mass, on))
	leaves(t, "one within", r, handWorld(), dropping(ent(5, 2), colPos), without([]int{colHp, colMass, colOn}, hp, mass, on))
	leaves(t, "another one within", r, handWorld(), dropping(ent(5, 2), colMass), without([]int{colHp, colPos, colOn}, hp, pos, on))
	leaves(t, "the last column", r, handWorld(), dropping(ent(5, 2), colOn), without([]int{colHp, colPos, colMass}, hp, pos, mass))

	w = handWorld()
	w.Tables[4] = table([]int{colHp, colOn}, []impl.Ent{ent(4, 0)}, []impl.Val{whole(40)}, []impl.Val{yesNo(true)})
	w.Tables = append(w.Tables, table([]int{colHp}, []impl.Ent{ent(7, 0)}, []impl.Val{whole(70)}))
	leaves(t, "from the first row", r, handWorld(), dropping(ent(7, 0), colOn), w)

	bare := cloneWorld(w)
	bare.Tables[5] = table([]int{colHp}, nil, nil)
	bare.Tables[3].Rows = append(bare.Tables[3].Rows, ent(7, 0))
	leaves(t, "the only column", r, w, dropping(ent(7, 0), colHp), bare)

	one := crowd(2)
	want := cloneWorld(one)
	want.Tables[0] = table([]int{colHp}, []impl.Ent{ent(1, 1)}, []impl.Val{whole(1)})
	want.Tables = append(want.Tables, table(nil, []impl.Ent{ent(0, 0)}))
	leaves(t, "the only column, to a new table", r, one, dropping(ent(0, 0), colHp), want)
}

func TestSetByHand(t *testing.T) {
	r := worldReg()
	for at, tab := range handWorld().Tables {
		for row, e := range tab.Rows {
			for i, comp := range tab.Cols {
				v := []impl.Val{whole(-99), pair(nan, negZero), float(-9.5), yesNo(tab.Cells[i][row].I == 0)}[comp]
				want := handWorld()
				want.Tables[at].Cells[i][row] = v
				leaves(t, "set", r, handWorld(), setting(e, comp, v), want)
				leaves(t, "put", r, handWorld(), putting(e, comp, v), want)
			}
		}
	}
}

func TestGetTellsEachCell(t *testing.T) {
	for _, c := range rightWorlds()[:6] {
		for _, tab := range c.w.Tables {
			for row, e := range tab.Rows {
				for comp := -1; comp <= len(c.r.Comps); comp++ {
					v, ok := impl.Get(c.r, c.w, e, comp)
					i := slices.Index(tab.Cols, comp)
					if ok != (i >= 0) || i < 0 && v != (impl.Val{}) || ok && !same(v, tab.Cells[i][row]) {
						t.Error(c.what, e, comp, v, ok)
					}
				}
			}
		}
		for _, e := range strangers(c.w.Ents) {
			if v, ok := impl.Get(c.r, c.w, e, 0); ok || v != (impl.Val{}) {
				t.Error(c.what, "of a stranger", e, v)
			}
		}
	}
}

func TestSetBehindGetChangesNothing(t *testing.T) {
	for _, c := range rightWorlds() {
		for _, tab := range c.w.Tables {
			for _, e := range tab.Rows[:min(3, len(tab.Rows))] {
				for _, comp := range tab.Cols {
					v, ok := impl.Get(c.r, c.w, e, comp)
					if !ok {
						t.Fatal(c.what, "nothing got", e, comp)
					}
					leaves(t, c.what, c.r, c.w, setting(e, comp, v), c.w)
					leaves(t, c.what, c.r, c.w, putting(e, comp, v), c.w)
				}
			}
		}
	}
}

func TestKillBehindSpawnLeavesAsManyThings(t *testing.T) {
	for _, c := range rightWorlds() {
		w, e, code := impl.Spawn(c.r, c.w, nil)
		if code != impl.WDone {
			if c.what != "full crowd" {
				t.Error(c.what, "spawn", code)
			}
			continue
		}
		w, code = impl.Kill(c.r, w, e)
		if code != impl.WDone || !impl.WorldOk(c.r, w) || !slices.Equal(impl.EntList(w.Ents), impl.EntList(c.w.Ents)) {
			t.Error(c.what, "kill", code)
		}
	}
}

func TestWhere(t *testing.T) {
	for _, c := range rightWorlds() {
		for at, tab := range c.w.Tables {
			for row, e := range tab.Rows {
				if i, k := impl.Where(c.w, e); i != at || k != row {
					t.Fatal(c.what, e, i, k)
				}
			}
		}
	}
	for _, e := range strangers(handWorld().Ents) {
		if i, k := impl.Where(handWorld(), e); i != -1 || k != -1 {
			t.Error("a stranger", e, i, k)
		}
	}
	if i, k := impl.Where(impl.World{}, ent(0, 0)); i != -1 || k != -1 {
		t.Error("an empty world", i, k)
	}
}

// Of what is looked for only rows count, however wrong the rest is.
func TestWhereInWrongWorlds(t *testing.T) {
	a, b, c := ent(-5, leastInt), ent(mostInt, -1), ent(0, 0)
	w := impl.World{Tables: []impl.Table{
		table([]int{9, 9, -1}, nil, nil),
		table(nil, []impl.Ent{a, b, a}),
		table([]int{1}, []impl.Ent{c, b, a, c}),
	}}
	for len(w.Tables) <= impl.MaxTables {
		w.Tables = append(w.Tables, table(nil, []impl.Ent{b, ent(1, len(w.Tables))}))
	}
	cases := []struct {
		e      impl.Ent
		at, in int
	}{{a, 1, 0}, {b, 1, 1}, {c, 2, 0}, {ent(1, impl.MaxTables), impl.MaxTables, 1}, {ent(1, 1), -1, -1}, {ent(0, 1), -1, -1}}
	for _, k := range cases {
		if at, in := impl.Where(w, k.e); at != k.at || in != k.in {
			t.Error("where", k.e, at, in)
		}
	}
}

func TestMatchByHand(t *testing.T) {
	w := handWorld()
	cases := []struct {
		with, without []int
		want          []impl.Ent
	}{
		{nil, nil, []impl.Ent{ent(3, 1), ent(0, 4), ent(8, 3), ent(5, 2), ent(1, 0), ent(7, 0), ent(4, 0)}},
		{[]int{}, []int{}, []impl.Ent{ent(3, 1), ent(0, 4), ent(8, 3), ent(5, 2), ent(1, 0), ent(7, 0), ent(4, 0)}},
		{[]int{colHp}, nil, []impl.Ent{ent(3, 1), ent(0, 4), ent(8, 3), ent(5, 2), ent(7, 0), ent(4, 0)}},
		{[]int{colHp}, []int{colOn}, []impl.Ent{ent(3, 1), ent(0, 4), ent(8, 3)}},
		{[]int{colHp}, []int{colPos, colMass}, []impl.Ent{ent(7, 0), ent(4, 0)}},
		{[]int{colOn, colHp}, nil, []impl.Ent{ent(5, 2), ent(7, 0), ent(4, 0)}},
		{[]int{colOn, colMass}, nil, []impl.Ent{ent(5, 2)}},
		{[]int{colOn, colOn, colHp, colOn}, nil, []impl.Ent{ent(5, 2), ent(7, 0), ent(4, 0)}},
		{[]int{colPos}, []int{colHp}, nil},
		{nil, []int{colHp}, []impl.Ent{ent(1, 0)}},
		{nil, []int{colMass, colOn}, []impl.Ent{ent(1, 0)}},
		{nil, []int{colOn, colOn}, []impl.Ent{ent(3, 1), ent(0, 4), ent(8, 3), ent(1, 0)}},
		{[]int{colHp}, []int{colHp}, nil},
		{[]int{colHp, 99}, nil, nil},
		{[]int{-1}, nil, nil},
		{[]int{colMass}, []int{99, -1, leastInt, mostInt}, []impl.Ent{ent(3, 1), ent(0, 4), ent(8, 3), ent(5, 2)}},
	}
	for _, c := range cases {
		if got := impl.Match(w, c.with, c.without); !slices.Equal(got, c.want) {
			t.Error("match", c.with, c.without, got)
		}
	}
}

func TestMatchAtItsLimits(t *testing.T) {
	most, more := upTo(impl.MaxDecls), upTo(impl.MaxDecls+1)
	first := slices.Repeat([]int{0}, impl.MaxDecls)
	w := allColumns()
	if got := impl.Match(w, most, nil); !slices.Equal(got, w.Tables[0].Rows) {
		t.Error("all columns asked for", got)
	}
	if got := impl.Match(w, first, nil); !slices.Equal(got, w.Tables[0].Rows) {
		t.Error("one column asked for as often as it can be", got)
	}
	if got := impl.Match(w, append(first, 0), nil); len(got) != 0 {
		t.Error("one column asked for once more", got)
	}
	bare := impl.World{Tables: []impl.Table{table(nil, []impl.Ent{ent(4, 4)})}}
	if got := impl.Match(bare, nil, most); !slices.Equal(got, bare.Tables[0].Rows) {
		t.Error("all columns barred", got)
	}
	if got := impl.Match(bare, nil, more); len(got) != 0 {
		t.Error("one more barred", got)
	}
	if got := impl.Match(w, more, nil); len(got) != 0 {
		t.Error("one more asked for", got)
	}
	full := manyTables(impl.MaxTables)
	if got := impl.Match(full, nil, nil); len(got) != impl.MaxTables || got[39] != ent(39, 0) {
		t.Error("most tables", got)
	}
	if got := impl.Match(manyTables(impl.MaxTables+1), nil, nil); len(got) != 0 {
		t.Error("one table more", got)
	}
}

// Tables may be wrong in every way: only their columns and rows are looked at.
func TestMatchInWrongWorlds(t *testing.T) {
	a, b := ent(-3, 8), ent(mostInt, leastInt)
	w := impl.World{
		Ents: ents([]int{-1}, 5, 5),
		Tables: []impl.Table{
			table([]int{7, -2, 7}, []impl.Ent{a, a}),
			table([]int{-2}, []impl.Ent{b}, nil, nil, nil),
			table([]int{-2}, []impl.Ent{a}),
			table(upTo(30), []impl.Ent{b, a}),
		},
	}
	cases := []struct {
		with, without []int
		want          []impl.Ent
	}{
		{[]int{-2}, nil, []impl.Ent{a, a, b, a}},
		{[]int{7}, nil, []impl.Ent{a, a, b, a}},
		{[]int{-2}, []int{7}, []impl.Ent{b, a}},
		{[]int{29, 0, 12}, nil, []impl.Ent{b, a}},
		{nil, []int{-2}, []impl.Ent{b, a}},
	}
	for _, c := range cases {
		if got := impl.Match(w, c.with, c.without); !slices.Equal(got, c.want) {
			t.Error("match", c.with, c.without, got)
		}
	}
}

func TestWorldSame(t *testing.T) {
	all := append(rightWorlds(), wrongWorlds()...)
	for i, a := range all {
		if !impl.WorldSame(a.w, a.w) || !impl.WorldSame(a.w, cloneWorld(a.w)) {
			t.Error("not the same as itself:", a.what)
		}
		for j, b := range all {
			if i%7 != j%7 {
				continue
			}
			if got := impl.WorldSame(a.w, b.w); got != sameWorld(a.w, b.w) {
				t.Error(a.what, "and", b.what, got)
			}
		}
	}
}

// Each step makes another world of handWorld by one number or one list.
func TestWorldSameSeesEachNumber(t *testing.T) {
	steps := []func(w *impl.World){
		func(w *impl.World) { w.Ents.Gens[6]++ },
		func(w *impl.World) { w.Ents.Gens = append(w.Ents.Gens, 0) },
		func(w *impl.World) { w.Ents.Free = []int{2, 6} },
		func(w *impl.World) { w.Ents.Free = w.Ents.Free[:1] },
		func(w *impl.World) { w.Tables = w.Tables[:4] },
		func(w *impl.World) { w.Tables = append(w.Tables, impl.Table{}) },
		func(w *impl.World) { w.Tables[0], w.Tables[1] = w.Tables[1], w.Tables[0] },
		func(w *impl.World) { w.Tables[1].Cols[0] = colOn },
		func(w *impl.World) { w.Tables[1].Cols = nil },
		func(w *impl.World) { w.Tables[3].Cols = []int{colHp} },
		func(w *impl.World) { w.Tables[4].Rows[1].Gen++ },
		func(w *impl.World) { w.Tables[4].Rows[0].At-- },
		func(w *impl.World) { w.Tables[3].Rows = nil },
		func(w *impl.World) {
			w.Tables[0].Rows[0], w.Tables[0].Rows[1] = w.Tables[0].Rows[1], w.Tables[0].Rows[0]
		},
		func(w *impl.World) { w.Tables[0].Cells[0][2].I++ },
		func(w *impl.World) { w.Tables[0].Cells[1][1] = float(0) },
		func(w *impl.World) { w.Tables[2].Cells[1][0].Y = 5 },
		func(w *impl.World) { w.Tables[2].Cells[3][0].Kind = impl.KInt },
		func(w *impl.World) { w.Tables[4].Cells[1] = w.Tables[4].Cells[1][:1] },
		func(w *impl.World) { w.Tables[4].Cells = w.Tables[4].Cells[:1] },
		func(w *impl.World) { w.Tables[1].Cells[0] = []impl.Val{{}} },
		func(w *impl.World) { w.Res[0].I++ },
		func(w *impl.World) { w.Res[2].X = 0 },
		func(w *impl.World) { w.Res = w.Res[:2] },
		func(w *impl.World) { w.Res = append(w.Res, whole(0)) },
	}
	for i, step := range steps {
		w := cloneWorld(handWorld())
		step(&w)
		if impl.WorldSame(w, handWorld()) || impl.WorldSame(handWorld(), w) {
			t.Error("the same behind step", i)
		}
	}
	a, b := withNaNs(), withNaNs()
	b.Tables[0].Cells[1][0], b.Tables[0].Cells[1][1] = float(otherNaN), float(nan)
	if !impl.WorldSame(a, b) {
		t.Error("all NaNs are the same")
	}
}

// An empty list and nil are the same value, wherever they stand.
func TestEmptyListsAreNil(t *testing.T) {
	r := impl.Reg{Comps: decls("C", 1)}
	a := impl.World{Tables: []impl.Table{{}, {Cols: []int{0}, Cells: [][]impl.Val{nil}}}}
	b := impl.World{
		Ents: impl.Ents{Gens: []int{}, Free: []int{}},
		Tables: []impl.Table{
			{Cols: []int{}, Rows: []impl.Ent{}, Cells: [][]impl.Val{}},
			{Cols: []int{0}, Rows: []impl.Ent{}, Cells: [][]impl.Val{{}}},
		},
		Res: []impl.Val{},
	}
	if !impl.WorldSame(a, b) || !impl.WorldSame(b, a) || !impl.WorldSame(impl.World{}, impl.World{Tables: []impl.Table{}}) {
		t.Error("not the same")
	}
	for _, w := range []impl.World{a, b} {
		if !impl.WorldOk(r, w) {
			t.Error("not right")
		}
		none, _, c := impl.Spawn(r, w, nil)
		empty, _, d := impl.Spawn(r, w, []impl.Cell{})
		if c != impl.WDone || d != impl.WDone || !sameWorld(none, empty) || len(none.Tables) != 2 || len(none.Tables[0].Rows) != 1 {
			t.Error("spawn", c, d, none)
		}
		put, _ := impl.Put(r, none, ent(0, 0), 0, whole(3))
		drop, code := impl.Drop(r, put, ent(0, 0), 0)
		if code != impl.WDone || !sameWorld(drop, none) || len(put.Tables) != 2 {
			t.Error("there and back", code, drop)
		}
	}
	twins := impl.World{Tables: []impl.Table{{Cols: nil}, {Cols: []int{}}}}
	if impl.WorldOk(r, twins) {
		t.Error("two tables without columns")
	}
}
