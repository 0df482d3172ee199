package tests

import (
	"slices"
	"testing"

	"loop.example/g00070/impl"
)

func cmdSpawn(list ...impl.Cell) impl.Cmd { return impl.Cmd{Kind: impl.CmdSpawn, List: list} }

func cmdKill(who impl.Ent) impl.Cmd { return impl.Cmd{Kind: impl.CmdKill, Who: who} }

func cmdPut(who impl.Ent, comp int, v impl.Val) impl.Cmd {
	return impl.Cmd{Kind: impl.CmdPut, Who: who, Comp: comp, Val: v}
}

func cmdDrop(who impl.Ent, comp int) impl.Cmd {
	return impl.Cmd{Kind: impl.CmdDrop, Who: who, Comp: comp}
}

// promised is what the buffer's nth CmdSpawn makes, counted from 1 on.
func promised(n int) impl.Ent { return ent(-n, 0) }

var allKinds = []int{impl.CmdSpawn, impl.CmdKill, impl.CmdPut, impl.CmdDrop}

var noKinds = []int{leastInt, -4, -1, 0, 5, 6, 9, 256 + 1, mostInt}

// byCalls is Merge told in another way: each command by a call of its own. A
// promised thing that is not made goes in as it is, for nobody can be it.
func byCalls(r impl.Reg, w impl.World, bufs [][]impl.Cmd) (impl.World, [][]int) {
	w = cloneWorld(w)
	codes := make([][]int, len(bufs))
	for i, buf := range bufs {
		var made []impl.Ent
		for _, c := range buf {
			who := c.Who
			for n, e := range made {
				if who == promised(n+1) {
					who = e
					break
				}
			}
			code := impl.WBad
			switch c.Kind {
			case impl.CmdSpawn:
				var e impl.Ent
				w, e, code = impl.Spawn(r, w, c.List)
				if code != impl.WDone {
					e = promised(len(made) + 1)
				}
				made = append(made, e)
			case impl.CmdKill:
				w, code = impl.Kill(r, w, who)
			case impl.CmdPut:
				w, code = impl.Put(r, w, who, c.Comp, c.Val)
			case impl.CmdDrop:
				w, code = impl.Drop(r, w, who, c.Comp)
			}
			codes[i] = append(codes[i], code)
		}
	}
	return w, codes
}

func sameCodes(a, b [][]int) bool { return slices.EqualFunc(a, b, slices.Equal) }

// merged merges, and asks for all that holds of every Merge that is done: its
// codes are as many as the commands, its world is right, and both are those of
// the same calls one by one.
func merged(t *testing.T, r impl.Reg, w impl.World, bufs [][]impl.Cmd) (impl.World, [][]int) {
	t.Helper()
	was := cloneWorld(w)
	q, codes, code := impl.Merge(r, w, bufs)
	if code != impl.WDone || !sameWorld(w, was) {
		t.Fatal("merge:", code, "the argument stays:", sameWorld(w, was))
	}
	if len(codes) != len(bufs) {
		t.Fatal("codes of", len(codes), "buffers, not of", len(bufs))
	}
	for i, buf := range bufs {
		if len(codes[i]) != len(buf) {
			t.Fatal("buffer", i, "has", len(codes[i]), "codes, not", len(buf))
		}
	}
	if !impl.WorldOk(r, q) {
		t.Fatalf("not right behind it: %+v", q)
	}
	if want, list := byCalls(r, w, bufs); !sameCodes(codes, list) || !sameWorld(q, want) {
		t.Fatalf("not as one by one:\ncodes %v\n  not %v\nhave %+v\nwant %+v", codes, list, q, want)
	}
	return q, codes
}

// mergedTo is merged with the codes that are asked for, buffer by buffer.
func mergedTo(t *testing.T, r impl.Reg, w impl.World, bufs [][]impl.Cmd, want ...[]int) impl.World {
	t.Helper()
	q, codes := merged(t, r, w, bufs)
	if !sameCodes(codes, want) {
		t.Fatal("codes", codes, "not", want)
	}
	return q
}

// mergeRefused asks for WBad, the world handed back, and nothing.
func mergeRefused(t *testing.T, what string, r impl.Reg, w impl.World, bufs [][]impl.Cmd) {
	t.Helper()
	was := cloneWorld(w)
	q, codes, code := impl.Merge(r, w, bufs)
	if code != impl.WBad || len(codes) != 0 || !sameWorld(q, was) || !sameWorld(w, was) {
		t.Errorf("%s: code %d, codes %v, handed back: %v", what, code, codes, sameWorld(q, was))
	}
}

// rightCmds holds commands of every kind that are right by worldReg.
func rightCmds() []impl.Cmd {
	all := []impl.Cell{cell(colOn, yesNo(true)), cell(colMass, float(nan)), cell(colHp, whole(leastInt)), cell(colPos, pair(negZero, inf))}
	list := []impl.Cmd{cmdSpawn(), cmdSpawn(all...)}
	for _, c := range all {
		list = append(list, cmdSpawn(c), cmdPut(ent(0, 4), c.Comp, c.Val), cmdDrop(ent(0, 4), c.Comp))
	}
	for _, who := range []impl.Ent{ent(0, 4), ent(9, 9), promised(1), promised(60), ent(leastInt, 0), ent(-1, mostInt), ent(mostInt, leastInt)} {
		list = append(list, cmdKill(who), cmdPut(who, colHp, whole(1)), cmdDrop(who, colOn))
	}
	return list
}

// wrongCmds holds commands that are not right by worldReg, each for one reason.
func wrongCmds() []impl.Cmd {
	var list []impl.Cmd
	for _, kind := range noKinds {
		c := cmdPut(ent(0, 4), colHp, whole(1))
		c.Kind = kind
		list = append(list, c, impl.Cmd{Kind: kind})
	}
	for _, comp := range []int{leastInt, -1, colOn + 1, impl.MaxDecls, mostInt} {
		list = append(list, cmdPut(ent(0, 4), comp, whole(1)), cmdDrop(ent(0, 4), comp), cmdDrop(promised(1), comp))
		list = append(list, cmdSpawn(cell(comp, whole(1))), cmdSpawn(cell(colMass, float(1)), cell(comp, whole(1))))
	}
	for _, v := range wrongValues() {
		for comp := colHp; comp <= colOn; comp++ {
			list = append(list, cmdPut(ent(0, 4), comp, v), cmdSpawn(cell(comp, v)))
		}
	}
	for comp, v := range []impl.Val{float(1), whole(1), pair(1, 1), whole(1)} {
		other := (comp + 1) % 4
		right := []impl.Val{whole(2), pair(2, 2), float(2), yesNo(true)}[other]
		list = append(list, cmdPut(promised(1), comp, v), cmdPut(ent(0, 4), comp, v), cmdSpawn(cell(comp, v)))
		list = append(list, cmdSpawn(cell(comp, v), cell(other, right)), cmdSpawn(cell(other, right), cell(comp, v)))
		list = append(list, cmdSpawn(cell(other, right), cell(other, right)))
	}
	twice := cell(colHp, whole(2))
	return append(list,
		cmdSpawn(twice, cell(colOn, yesNo(true)), twice),
		cmdSpawn(cell(colOn, yesNo(true)), twice, cell(colHp, whole(3))),
		cmdSpawn(cell(colOn, yesNo(true)), cell(colMass, float(1)), cell(colPos, pair(1, 1)), twice, cell(colMass, float(1))),
		cmdSpawn(slices.Repeat([]impl.Cell{twice}, 100)...))
}

// littered holds c with each thing that its kind does not name set to
// something, and all of them at once.
func littered(c impl.Cmd) []impl.Cmd {
	var steps []func(c *impl.Cmd)
	if !slices.Contains([]int{impl.CmdKill, impl.CmdPut, impl.CmdDrop}, c.Kind) {
		for _, who := range []impl.Ent{ent(0, 4), promised(1), ent(leastInt, mostInt)} {
			steps = append(steps, func(c *impl.Cmd) { c.Who = who })
		}
	}
	if !slices.Contains([]int{impl.CmdPut, impl.CmdDrop}, c.Kind) {
		for _, comp := range []int{colMass, -1, leastInt, mostInt} {
			steps = append(steps, func(c *impl.Cmd) { c.Comp = comp })
		}
	}
	if c.Kind != impl.CmdPut {
		for _, v := range []impl.Val{whole(1), {Kind: 99, I: 1, X: nan}, pair(nan, negZero)} {
			steps = append(steps, func(c *impl.Cmd) { c.Val = v })
		}
	}
	if c.Kind != impl.CmdSpawn {
		for _, list := range [][]impl.Cell{{cell(colHp, whole(1))}, {cell(-7, impl.Val{}), cell(-7, impl.Val{})}, {cell(colMass, whole(1)), cell(99, float(1))}} {
			steps = append(steps, func(c *impl.Cmd) { c.List = list })
		}
	}
	var list []impl.Cmd
	all := c
	for _, step := range steps {
		one := c
		step(&one)
		step(&all)
		list = append(list, one)
	}
	return append(list, all)
}

// turnReg is a Reg with a column of every kind and one under which the tables
// run out, in turn.
func turnReg(n int) impl.Reg {
	if n%2 == 0 {
		return worldReg()
	}
	return wideReg()
}

// writer writes buffers by chance.
type writer struct {
	chain
	spawned int
}

func startWriter(t *testing.T, r impl.Reg, seed int) *writer {
	return &writer{chain: *startChain(t, r, seed, map[string]int{})}
}

// whoever is a live thing, a promised one, or nobody.
func (a *writer) whoever() impl.Ent {
	switch a.d.roll(8) {
	case 0, 1, 2:
		return promised(1 + a.d.roll(a.spawned+2))
	case 3:
		return strangers(a.w.Ents)[a.d.roll(3)]
	}
	return a.anyone()
}

func (a *writer) anyCells() []impl.Cell {
	var list []impl.Cell
	for _, comp := range a.anyComps(4) {
		list = append(list, cell(comp, a.anyVal(comp)))
	}
	return list
}

func (a *writer) anyCmd() impl.Cmd {
	comp := a.d.roll(len(a.r.Comps))
	switch a.d.roll(14) {
	case 0, 1, 2, 3:
		a.spawned++
		return cmdSpawn(a.anyCells()...)
	case 4, 5:
		return cmdKill(a.whoever())
	case 6, 7, 8:
		return cmdPut(a.whoever(), comp, a.anyVal(comp))
	case 9, 10, 11:
		return cmdDrop(a.whoever(), comp)
	}
	wrong := wrongCmds()
	c := wrong[a.d.roll(len(wrong))]
	if c.Kind == impl.CmdSpawn {
		a.spawned++
	}
	return c
}

func (a *writer) anyBuf(most int) []impl.Cmd {
	a.spawned = 0
	var buf []impl.Cmd
	for range a.d.roll(most + 1) {
		c := a.anyCmd()
		if a.d.roll(4) == 0 {
			more := littered(c)
			c = more[a.d.roll(len(more))]
		}
		buf = append(buf, c)
	}
	return buf
}

func (a *writer) anyBufs(bufs, most int) [][]impl.Cmd {
	var list [][]impl.Cmd
	for range a.d.roll(bufs + 1) {
		list = append(list, a.anyBuf(most))
	}
	return list
}
