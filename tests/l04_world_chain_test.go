package tests

import (
	"slices"
	"testing"

	"loop.example/g00070/impl"
)

// ledger is a world told in another way: row by row, each thing with its own
// values by their columns. It does what chapter 4 says, without any haste.
type ledger struct {
	ents  impl.Ents
	pages []page
	res   []impl.Val
}

type page struct {
	cols []int
	rows []entry
}

type entry struct {
	who  impl.Ent
	vals map[int]impl.Val
}

func (l *ledger) find(e impl.Ent) (int, int) {
	for i, p := range l.pages {
		for k, row := range p.rows {
			if row.who == e {
				return i, k
			}
		}
	}
	return -1, -1
}

// enter is to go to a table.
func (l *ledger) enter(who impl.Ent, vals map[int]impl.Val) bool {
	var cols []int
	for comp := range vals {
		cols = append(cols, comp)
	}
	slices.Sort(cols)
	for i, p := range l.pages {
		if slices.Equal(p.cols, cols) {
			l.pages[i].rows = append(p.rows, entry{who, vals})
			return true
		}
	}
	if len(l.pages) >= impl.MaxTables {
		return false
	}
	l.pages = append(l.pages, page{cols, []entry{{who, vals}}})
	return true
}

// leave is to leave a table.
func (l *ledger) leave(i, k int) {
	rows := l.pages[i].rows
	rows[k] = rows[len(rows)-1]
	l.pages[i].rows = rows[:len(rows)-1]
}

func (l *ledger) spawn(list []impl.Cell) (impl.Ent, int) {
	ents, e, code := impl.EntTake(l.ents)
	vals := map[int]impl.Val{}
	for _, c := range list {
		vals[c.Comp] = c.Val
	}
	if code != impl.EntDone || !l.enter(e, vals) {
		return impl.Ent{}, impl.WFull
	}
	l.ents = ents
	return e, impl.WDone
}

func (l *ledger) kill(e impl.Ent) int {
	i, k := l.find(e)
	if i < 0 {
		return impl.WDead
	}
	l.leave(i, k)
	l.ents, _ = impl.EntGive(l.ents, e)
	return impl.WDone
}

// alter gives a thing other values, which may be of other columns.
func (l *ledger) alter(e impl.Ent, step func(vals map[int]impl.Val)) int {
	i, k := l.find(e)
	vals := map[int]impl.Val{}
	for comp, v := range l.pages[i].rows[k].vals {
		vals[comp] = v
	}
	step(vals)
	if len(vals) == len(l.pages[i].cols) {
		l.pages[i].rows[k].vals = vals
		return impl.WDone
	}
	if !l.enter(e, vals) {
		return impl.WFull
	}
	l.leave(i, k)
	return impl.WDone
}

func (l *ledger) has(e impl.Ent, comp int) bool {
	i, _ := l.find(e)
	return i >= 0 && slices.Contains(l.pages[i].cols, comp)
}

func (l *ledger) put(e impl.Ent, comp int, v impl.Val) int {
	if i, _ := l.find(e); i < 0 {
		return impl.WDead
	}
	return l.alter(e, func(vals map[int]impl.Val) { vals[comp] = v })
}

func (l *ledger) drop(e impl.Ent, comp int) int {
	if i, _ := l.find(e); i < 0 {
		return impl.WDead
	}
	if !l.has(e, comp) {
		return impl.WLack
	}
	return l.alter(e, func(vals map[int]impl.Val) { delete(vals, comp) })
}

func (l *ledger) set(e impl.Ent, comp int, v impl.Val) int {
	if i, _ := l.find(e); i >= 0 && !l.has(e, comp) {
		return impl.WLack
	}
	return l.put(e, comp, v)
}

func (l *ledger) match(with, without []int) []impl.Ent {
	var list []impl.Ent
	for _, p := range l.pages {
		fits := true
		for _, comp := range with {
			fits = fits && slices.Contains(p.cols, comp)
		}
		for _, comp := range without {
			fits = fits && !slices.Contains(p.cols, comp)
		}
		for _, row := range p.rows {
			if fits {
				list = append(list, row.who)
			}
		}
	}
	return list
}

// world is what the ledger comes to in the program's own form.
func (l *ledger) world() impl.World {
	w := impl.World{Ents: l.ents, Res: l.res}
	for _, p := range l.pages {
		t := impl.Table{Cols: p.cols, Cells: make([][]impl.Val, len(p.cols))}
		for _, row := range p.rows {
			t.Rows = append(t.Rows, row.who)
			for i, comp := range p.cols {
				t.Cells[i] = append(t.Cells[i], row.vals[comp])
			}
		}
		w.Tables = append(w.Tables, t)
	}
	return w
}

// chain is a row of calls by chance, done to a world and to a ledger.
type chain struct {
	t     *testing.T
	r     impl.Reg
	w     impl.World
	l     *ledger
	d     dice
	known []impl.Ent
	codes map[string]int
}

// startChain counts in codes which codes are met.
func startChain(t *testing.T, r impl.Reg, seed int, codes map[string]int) *chain {
	w := impl.NewWorld(r)
	return &chain{t: t, r: r, w: w, l: &ledger{res: w.Res}, d: dice(seed), codes: codes}
}

func (c *chain) anyVal(comp int) impl.Val {
	n := c.d.roll(1000)
	x := someFloats[c.d.roll(len(someFloats))]
	switch c.r.Comps[comp].Kind {
	case impl.KReal:
		return float(x)
	case impl.KPair:
		return pair(float64(n), x)
	case impl.KBool:
		return yesNo(n%2 == 1)
	}
	return whole(n)
}

// anyone is a thing that lives, or, now and then, one that has lived.
func (c *chain) anyone() impl.Ent {
	live := impl.EntList(c.w.Ents)
	if len(live) == 0 || c.d.roll(12) == 0 {
		return append(c.known, ent(0, 0))[c.d.roll(len(c.known)+1)]
	}
	return live[c.d.roll(len(live))]
}

func (c *chain) anyComps(most int) []int {
	comps := upTo(len(c.r.Comps))
	for i := range comps {
		j := c.d.roll(i + 1)
		comps[i], comps[j] = comps[j], comps[i]
	}
	return comps[:c.d.roll(min(most, len(comps))+1)]
}

func (c *chain) step() {
	comp := c.d.roll(len(c.r.Comps))
	e, v := c.anyone(), c.anyVal(comp)
	switch c.d.roll(9) {
	case 0, 1, 2:
		c.spawn()
	case 3:
		want := c.l.kill(e)
		q, code := impl.Kill(c.r, c.w, e)
		c.behind("kill", q, code, want, e, -1)
		c.gone(e)
	case 4, 5:
		want := c.l.put(e, comp, v)
		q, code := impl.Put(c.r, c.w, e, comp, v)
		c.behind("put", q, code, want, e, comp)
		c.got(e, comp, v, code)
	case 6, 7:
		want := c.l.drop(e, comp)
		q, code := impl.Drop(c.r, c.w, e, comp)
		c.behind("drop", q, code, want, e, comp)
		if code == impl.WDone {
			c.lost(e, comp)
		}
	case 8:
		want := c.l.set(e, comp, v)
		q, code := impl.Set(c.r, c.w, e, comp, v)
		c.behind("set", q, code, want, e, comp)
		c.got(e, comp, v, code)
	}
}

func (c *chain) spawn() {
	var list []impl.Cell
	for _, comp := range c.anyComps(4) {
		list = append(list, cell(comp, c.anyVal(comp)))
	}
	who, want := c.l.spawn(list)
	q, e, code := impl.Spawn(c.r, c.w, list)
	if e != who {
		c.t.Fatal("spawned", e, who)
	}
	c.behind("spawn", q, code, want, e, -1)
	if code != impl.WDone {
		return
	}
	c.known = append(c.known, e)
	for comp := range c.r.Comps {
		i := slices.IndexFunc(list, func(x impl.Cell) bool { return x.Comp == comp })
		if i < 0 {
			c.lost(e, comp)
		} else {
			c.got(e, comp, list[i].Val, code)
		}
	}
}

// behind looks at the whole world behind a call.
func (c *chain) behind(what string, q impl.World, code, want int, e impl.Ent, comp int) {
	c.t.Helper()
	c.codes[what+string(rune('0'+code))]++
	if code != want || !sameWorld(q, c.l.world()) || !impl.WorldOk(c.r, q) {
		c.t.Fatalf("%s %v %d: code %d, not %d\nhave %+v\nwant %+v", what, e, comp, code, want, q, c.l.world())
	}
	if code != impl.WDone && !impl.WorldSame(q, c.w) {
		c.t.Fatal("not handed back", what, e, comp)
	}
	if len(q.Tables) < len(c.w.Tables) {
		c.t.Fatal("a table is gone", what)
	}
	for i, t := range c.w.Tables {
		if !slices.Equal(t.Cols, q.Tables[i].Cols) {
			c.t.Fatal("a table is another one", what, i)
		}
	}
	c.others(q, e, comp)
	c.w = q
}

// others asks for every other thing, and every other column of this one.
func (c *chain) others(q impl.World, e impl.Ent, comp int) {
	c.t.Helper()
	for _, t := range c.w.Tables {
		for row, other := range t.Rows {
			for i, col := range t.Cols {
				if other == e && (col == comp || comp < 0) {
					continue
				}
				at, k := impl.Where(q, other)
				if at < 0 {
					c.t.Fatal("another one is gone", other)
				}
				j := slices.Index(q.Tables[at].Cols, col)
				if j < 0 || !same(q.Tables[at].Cells[j][k], t.Cells[i][row]) {
					c.t.Fatal("another value has turned", other, col)
				}
			}
		}
	}
	if !sameVals(q.Res, c.w.Res) {
		c.t.Fatal("the resources have turned")
	}
}

func (c *chain) got(e impl.Ent, comp int, v impl.Val, code int) {
	c.t.Helper()
	if u, ok := impl.Get(c.r, c.w, e, comp); code == impl.WDone && (!ok || !same(u, v)) {
		c.t.Fatal("not got", e, comp, u, ok)
	}
}

func (c *chain) lost(e impl.Ent, comp int) {
	c.t.Helper()
	if v, ok := impl.Get(c.r, c.w, e, comp); ok {
		c.t.Fatal("got what is not there", e, comp, v)
	}
}

func (c *chain) gone(e impl.Ent) {
	c.t.Helper()
	if i, k := impl.Where(c.w, e); i != -1 || k != -1 || impl.EntLive(c.w.Ents, e) {
		c.t.Fatal("killed, and still there", e)
	}
	for comp := range c.r.Comps {
		c.lost(e, comp)
	}
}

// asks looks for things by columns, some of which are none.
func (c *chain) asks() {
	c.t.Helper()
	with, without := c.anyComps(3), c.anyComps(2)
	if got, want := impl.Match(c.w, with, without), c.l.match(with, without); !slices.Equal(got, want) {
		c.t.Fatal("match", with, without, got, want)
	}
	e := c.anyone()
	at, row := impl.Where(c.w, e)
	if i, k := c.l.find(e); i != at || k != row {
		c.t.Fatal("where", e, at, row, i, k)
	}
}

func TestChainsOfChanges(t *testing.T) {
	codes := map[string]int{}
	for seed := range 12 {
		c := startChain(t, worldReg(), seed, codes)
		for range 400 {
			c.step()
			c.asks()
		}
	}
	for _, want := range []string{"spawn0", "kill0", "kill2", "put0", "put2", "drop0", "drop2", "drop4", "set0", "set2", "set4"} {
		if codes[want] == 0 {
			t.Error("never met:", want)
		}
	}
}

// With twelve columns the tables run out, and all goes on among those that
// there are.
func TestChainsAmongFullTables(t *testing.T) {
	codes := map[string]int{}
	for seed := range 6 {
		c := startChain(t, wideReg(), 100+seed, codes)
		for range 500 {
			c.step()
			c.asks()
		}
	}
	for _, want := range []string{"spawn0", "spawn3", "kill0", "put0", "put3", "drop0", "drop3", "drop4", "set0"} {
		if codes[want] == 0 {
			t.Error("never met:", want)
		}
	}
}

// A chain that empties all tables leaves them standing, and they fill again.
func TestTablesStayWithoutRows(t *testing.T) {
	c := startChain(t, worldReg(), 5, map[string]int{})
	for range 150 {
		c.step()
	}
	for _, e := range impl.EntList(c.w.Ents) {
		want := c.l.kill(e)
		q, code := impl.Kill(c.r, c.w, e)
		c.behind("kill", q, code, want, e, -1)
	}
	tables := len(c.w.Tables)
	if tables < 8 || len(impl.Match(c.w, nil, nil)) != 0 {
		t.Fatal("empty tables", tables)
	}
	for i, p := range c.w.Tables {
		var list []impl.Cell
		for _, comp := range p.Cols {
			list = append(list, cell(comp, c.anyVal(comp)))
		}
		q, e, code := impl.Spawn(c.r, c.w, list)
		at, row := impl.Where(q, e)
		if code != impl.WDone || at != i || row != 0 || len(q.Tables) != tables {
			t.Error("gone to again", i, at, row, code)
		}
	}
}
