package tests

import (
	"slices"
	"strconv"
	"testing"

	"loop.example/g00070/impl"
)

func TestCommandConstants(t *testing.T) {
	got := []int{impl.MaxCmds, impl.MaxBufs, impl.CmdSpawn, impl.CmdKill, impl.CmdPut, impl.CmdDrop}
	if !slices.Equal(got, []int{60, 32, 1, 2, 3, 4}) {
		t.Error(got)
	}
}

func TestCmdOk(t *testing.T) {
	r := worldReg()
	for i, c := range rightCmds() {
		if !impl.CmdOk(r, c) {
			t.Error("right, and refused:", i, c)
		}
	}
	for i, c := range wrongCmds() {
		if impl.CmdOk(r, c) {
			t.Error("wrong, and taken:", i, c)
		}
	}
	for comp := range impl.MaxDecls {
		if !impl.CmdOk(wideReg(), cmdDrop(ent(0, 0), comp)) || !impl.CmdOk(wideReg(), cmdPut(ent(0, 0), comp, whole(1))) {
			t.Error("column refused", comp)
		}
	}
	if impl.CmdOk(impl.Reg{}, cmdDrop(ent(0, 0), 0)) || !impl.CmdOk(impl.Reg{}, cmdKill(ent(0, 0))) || !impl.CmdOk(impl.Reg{}, cmdSpawn()) {
		t.Error("a Reg without columns")
	}
}

// A Reg that is not right has no right command, not even one that names
// nothing of it.
func TestCmdOkByWrongRegs(t *testing.T) {
	regs := wrongRegs()
	for _, c := range wrongByReg() {
		regs = append(regs, c.r)
	}
	for i, r := range regs {
		for _, c := range rightCmds() {
			if impl.CmdOk(r, c) {
				t.Error("taken by a wrong Reg", i, c)
			}
		}
	}
}

func TestCmdOkLooksAtWhatItsKindNames(t *testing.T) {
	r := worldReg()
	for _, c := range rightCmds() {
		for _, q := range littered(c) {
			if !impl.CmdOk(r, q) {
				t.Error("refused for what it does not name:", q)
			}
		}
	}
	for _, c := range wrongCmds() {
		for _, q := range littered(c) {
			if impl.CmdOk(r, q) {
				t.Error("taken for what it does not name:", q)
			}
		}
	}
}

// The world and the codes are written out by hand here, each of them.
func TestMergeByHand(t *testing.T) {
	bufs := [][]impl.Cmd{
		{
			cmdSpawn(cell(colPos, pair(1, 2)), cell(colHp, whole(20))),
			cmdPut(ent(8, 3), colMass, float(8)),
			cmdDrop(ent(3, 1), colMass),
			cmdKill(ent(7, 0)),
			cmdDrop(ent(1, 0), colHp),
			cmdKill(ent(7, 0)),
		},
		{},
		{
			cmdKill(ent(3, 1)),
			cmdSpawn(cell(colPos, pair(9, 9))),
			cmdPut(ent(4, 0), colHp, float(1)),
			cmdPut(ent(1, 0), colPos, pair(3, 4)),
		},
	}
	q := mergedTo(t, worldReg(), handWorld(), bufs, []int{0, 0, 0, 0, impl.WLack, impl.WDead}, nil, []int{0, 0, impl.WBad, 0})
	want := impl.World{
		Ents: ents([]int{4, 0, 7, 2, 0, 2, 9, 1, 3}, 6, 7),
		Tables: []impl.Table{
			table([]int{colHp, colMass}, []impl.Ent{ent(8, 3), ent(0, 4)},
				[]impl.Val{whole(80), whole(-1)}, []impl.Val{float(8), float(negZero)}),
			table([]int{colPos}, []impl.Ent{ent(3, 2), ent(1, 0)}, []impl.Val{pair(9, 9), pair(3, 4)}),
			table([]int{colHp, colPos, colMass, colOn}, []impl.Ent{ent(5, 2)},
				[]impl.Val{whole(50)}, []impl.Val{pair(5, -5)}, []impl.Val{float(0.5)}, []impl.Val{yesNo(true)}),
			table(nil, nil),
			table([]int{colHp, colOn}, []impl.Ent{ent(4, 0)}, []impl.Val{whole(40)}, []impl.Val{yesNo(true)}),
			table([]int{colHp, colPos}, []impl.Ent{ent(2, 7)}, []impl.Val{whole(20)}, []impl.Val{pair(1, 2)}),
			table([]int{colHp}, nil, nil),
		},
		Res: handWorld().Res,
	}
	if !sameWorld(q, want) {
		t.Errorf("have %+v\nwant %+v", q, want)
	}
}

// Whatever the buffers say, Merge does what the same calls do one by one.
func TestMergeIsTheCallsOneByOne(t *testing.T) {
	met := map[string]int{}
	for seed := range 40 {
		r := turnReg(seed)
		a := startWriter(t, r, 7000+seed)
		for range 12 {
			bufs := a.anyBufs(6, 25)
			q, codes := merged(t, r, a.w, bufs)
			for i, buf := range bufs {
				for k, c := range buf {
					if slices.Contains(allKinds, c.Kind) {
						met[strconv.Itoa(c.Kind)+" "+strconv.Itoa(codes[i][k])]++
					}
				}
			}
			a.known = append(a.known, impl.EntList(a.w.Ents)...)
			a.w = q
		}
	}
	for _, want := range []string{"1 0", "1 1", "1 3", "2 0", "2 2", "3 0", "3 1", "3 2", "3 3", "4 0", "4 1", "4 2", "4 3", "4 4"} {
		if met[want] < 5 {
			t.Error("kind and code hardly met:", want, met[want])
		}
	}
}

func TestMergeOnEveryRightWorld(t *testing.T) {
	bufs := [][]impl.Cmd{rightCmds(), nil, wrongCmds()[:impl.MaxCmds], {cmdSpawn(), cmdPut(promised(1), 0, whole(3)), cmdKill(ent(0, 0))}}
	for _, c := range rightWorlds() {
		merged(t, c.r, c.w, bufs)
		merged(t, c.r, c.w, nil)
	}
}

// cutInTwo merges the buffers in two parts, cut at every place.
func cutInTwo(t *testing.T, r impl.Reg, w impl.World, bufs [][]impl.Cmd) {
	t.Helper()
	whole, codes := merged(t, r, w, bufs)
	for at := range len(bufs) + 1 {
		half, first, c := impl.Merge(r, w, bufs[:at])
		q, second, d := impl.Merge(r, half, bufs[at:])
		if c != impl.WDone || d != impl.WDone || !sameWorld(q, whole) || !sameCodes(append(first, second...), codes) {
			t.Error("cut at", at, "of", len(bufs))
		}
	}
}

func TestMergeInTwoParts(t *testing.T) {
	for seed := range 25 {
		r := turnReg(seed)
		a := startWriter(t, r, 300+seed)
		for range 6 {
			bufs := a.anyBufs(7, 14)
			cutInTwo(t, r, a.w, bufs)
			a.w, _ = merged(t, r, a.w, bufs)
		}
	}
}

// What a buffer has made is named in the other part, too, by its number in its
// own buffer alone.
func TestPromisesInTwoParts(t *testing.T) {
	cutInTwo(t, worldReg(), handWorld(), [][]impl.Cmd{
		{cmdSpawn(), cmdSpawn(), cmdPut(promised(2), colHp, whole(1))},
		{cmdPut(promised(1), colHp, whole(2)), cmdSpawn(), cmdPut(promised(1), colHp, whole(3)), cmdPut(promised(2), colHp, whole(4))},
		{},
		{cmdKill(promised(1)), cmdKill(promised(2))},
		{cmdSpawn(), cmdKill(promised(1)), cmdSpawn(), cmdKill(promised(1)), cmdPut(promised(2), colOn, yesNo(true))},
	})
}

// insertedAt is the buffers with an empty one at that place.
func insertedAt(bufs [][]impl.Cmd, at int, empty []impl.Cmd) [][]impl.Cmd {
	return slices.Insert(slices.Clone(bufs), at, empty)
}

func TestEmptyBuffersChangeNothing(t *testing.T) {
	r := worldReg()
	a := startWriter(t, r, 99)
	for range 15 {
		bufs := append(a.anyBufs(4, 12), []impl.Cmd{cmdSpawn(), cmdKill(promised(1))})
		q, codes := merged(t, r, a.w, bufs)
		for at := range len(bufs) + 1 {
			for _, empty := range [][]impl.Cmd{nil, {}} {
				p, more := merged(t, r, a.w, insertedAt(bufs, at, empty))
				if !sameWorld(p, q) || !sameCodes(more, slices.Insert(slices.Clone(codes), at, nil)) {
					t.Error("an empty buffer at", at, "changes something")
				}
			}
		}
		a.w = q
	}
	for _, bufs := range [][][]impl.Cmd{nil, {}, {nil}, {{}}, {nil, {}, nil}, make([][]impl.Cmd, impl.MaxBufs)} {
		if q := mergedTo(t, r, handWorld(), bufs, make([][]int, len(bufs))...); !sameWorld(q, handWorld()) {
			t.Error("no command, and a change:", len(bufs))
		}
	}
}

// hasVals asks for the values of a thing, column by column; nil is none.
func hasVals(t *testing.T, r impl.Reg, w impl.World, e impl.Ent, want map[int]impl.Val) {
	t.Helper()
	for comp := range r.Comps {
		v, ok := impl.Get(r, w, e, comp)
		u, wanted := want[comp]
		if ok != wanted || wanted && !same(v, u) {
			t.Error(e, "column", comp, "is", v, ok, "not", u, wanted)
		}
	}
}

func TestWhatABufferMakesItCanChange(t *testing.T) {
	r := worldReg()
	start := crowd(3)
	q := mergedTo(t, r, start, [][]impl.Cmd{{
		cmdSpawn(),
		cmdPut(promised(1), colHp, whole(1)),
		cmdSpawn(cell(colHp, whole(2)), cell(colOn, yesNo(true))),
		cmdDrop(promised(2), colOn),
		cmdPut(promised(2), colHp, whole(22)),
		cmdSpawn(cell(colPos, pair(3, 3))),
		cmdPut(promised(1), colMass, float(0.5)),
		cmdKill(promised(3)),
		cmdDrop(promised(1), colHp),
		cmdDrop(promised(1), colHp),
		cmdPut(promised(3), colHp, whole(3)),
		cmdDrop(promised(3), colPos),
		cmdKill(promised(3)),
	}}, []int{0, 0, 0, 0, 0, 0, 0, 0, 0, impl.WLack, impl.WDead, impl.WDead, impl.WDead})
	hasVals(t, r, q, ent(3, 0), map[int]impl.Val{colMass: float(0.5)})
	hasVals(t, r, q, ent(4, 0), map[int]impl.Val{colHp: whole(22)})
	hasVals(t, r, q, ent(5, 0), nil)
	if impl.EntLive(q.Ents, ent(5, 0)) || len(impl.EntList(q.Ents)) != 5 {
		t.Error("who lives", impl.EntList(q.Ents))
	}
	for i := range 3 {
		hasVals(t, r, q, ent(i, i%5), map[int]impl.Val{colHp: whole(i)})
	}
}

// Every one of the most CmdSpawns that a buffer can have is named by its number.
func TestEveryPromisedNumber(t *testing.T) {
	r := worldReg()
	for n := 1; n < impl.MaxCmds; n++ {
		buf := slices.Repeat([]impl.Cmd{cmdSpawn(cell(colHp, whole(0)))}, impl.MaxCmds-1)
		buf = append(buf, cmdPut(promised(n), colHp, whole(n)))
		q := mergedTo(t, r, crowd(4), [][]impl.Cmd{buf}, make([]int, impl.MaxCmds))
		for i := range impl.MaxCmds - 1 {
			want := 0
			if i+1 == n {
				want = n
			}
			hasVals(t, r, q, ent(4+i, 0), map[int]impl.Val{colHp: whole(want)})
		}
	}
}

// A place that comes again within a buffer has another generation: the old
// number stays dead.
func TestPlaceTakenAgainWithinABuffer(t *testing.T) {
	r := worldReg()
	q := mergedTo(t, r, handWorld(), [][]impl.Cmd{{
		cmdSpawn(cell(colHp, whole(1))),
		cmdKill(promised(1)),
		cmdSpawn(cell(colHp, whole(2))),
		cmdPut(promised(1), colHp, whole(10)),
		cmdPut(promised(2), colHp, whole(20)),
		cmdKill(ent(2, 7)),
		cmdDrop(ent(2, 8), colHp),
	}}, []int{0, 0, 0, impl.WDead, 0, impl.WDead, 0})
	hasVals(t, r, q, ent(2, 8), nil)
	if !impl.EntLive(q.Ents, ent(2, 8)) || impl.EntLive(q.Ents, ent(2, 7)) {
		t.Error("who lives", impl.EntList(q.Ents))
	}
	wrap := impl.World{Ents: ents([]int{impl.MaxGen}, 0), Res: handWorld().Res}
	q = mergedTo(t, r, wrap, [][]impl.Cmd{{cmdSpawn(), cmdKill(promised(1)), cmdSpawn(), cmdKill(promised(1)), cmdPut(promised(2), colHp, whole(1))}},
		[]int{0, 0, 0, impl.WDead, 0})
	hasVals(t, r, q, ent(0, 0), map[int]impl.Val{colHp: whole(1)})
}

func TestPromisedNumbersAreTheBuffersOwn(t *testing.T) {
	r := worldReg()
	q := mergedTo(t, r, crowd(1), [][]impl.Cmd{
		{cmdSpawn(cell(colHp, whole(1))), cmdSpawn(cell(colHp, whole(2)))},
		{cmdPut(promised(1), colHp, whole(-1)), cmdKill(promised(2)), cmdDrop(promised(1), colHp)},
		{cmdSpawn(), cmdPut(promised(1), colHp, whole(3)), cmdPut(promised(2), colHp, whole(-2))},
		{cmdKill(promised(1))},
	}, []int{0, 0}, []int{impl.WDead, impl.WDead, impl.WDead}, []int{0, 0, impl.WDead}, []int{impl.WDead})
	for i := range 3 {
		hasVals(t, r, q, ent(1+i, 0), map[int]impl.Val{colHp: whole(i + 1)})
	}
}

func TestTargetsAndSpawns(t *testing.T) {
	cases := []struct {
		buf    []impl.Cmd
		comps  []int
		spawns int
	}{
		{nil, nil, 0},
		{[]impl.Cmd{}, nil, 0},
		{[]impl.Cmd{cmdKill(ent(0, 0)), cmdSpawn()}, nil, 1},
		{[]impl.Cmd{cmdPut(ent(0, 0), colMass, float(1))}, []int{colMass}, 0},
		{[]impl.Cmd{cmdDrop(ent(0, 0), colOn)}, []int{colOn}, 0},
		{[]impl.Cmd{cmdSpawn(cell(colOn, yesNo(true)), cell(colHp, whole(1)), cell(colMass, float(1)))}, []int{colHp, colMass, colOn}, 1},
		{[]impl.Cmd{cmdDrop(ent(0, 0), 3), cmdPut(ent(0, 0), 1, whole(1)), cmdKill(ent(0, 0)), cmdSpawn(cell(2, whole(1)), cell(1, whole(1))), cmdSpawn(), cmdDrop(promised(9), 0)}, []int{0, 1, 2, 3}, 2},
		{[]impl.Cmd{cmdDrop(ent(0, 0), 7), cmdDrop(ent(0, 0), 7), cmdPut(ent(0, 0), 7, whole(1)), cmdSpawn(cell(7, whole(1)))}, []int{7}, 1},
		{[]impl.Cmd{cmdDrop(ent(0, 0), mostInt), cmdPut(ent(0, 0), leastInt, impl.Val{}), cmdSpawn(cell(-1, impl.Val{}), cell(-1, whole(1)), cell(500, impl.Val{Kind: 9}))}, []int{leastInt, -1, 500, mostInt}, 1},
		{slices.Repeat([]impl.Cmd{cmdSpawn(cell(4, whole(1)))}, 5*impl.MaxCmds), []int{4}, 5 * impl.MaxCmds},
	}
	for i, c := range cases {
		if got := impl.Targets(c.buf); !slices.Equal(got, c.comps) {
			t.Error("targets", i, got, c.comps)
		}
		if got := impl.Spawns(c.buf); got != c.spawns {
			t.Error("spawns", i, got, c.spawns)
		}
	}
}

// plainTargets goes through all columns that may be, and asks for each.
func plainTargets(buf []impl.Cmd) []int {
	named := map[int]bool{}
	for _, c := range buf {
		switch c.Kind {
		case impl.CmdSpawn:
			for _, x := range c.List {
				named[x.Comp] = true
			}
		case impl.CmdPut, impl.CmdDrop:
			named[c.Comp] = true
		}
	}
	var list []int
	for comp := range named {
		list = append(list, comp)
	}
	slices.Sort(list)
	return list
}

func TestTargetsOfAnyBuffers(t *testing.T) {
	a := startWriter(t, wideReg(), 41)
	for range 300 {
		buf := a.anyBuf(impl.MaxCmds)
		if got, want := impl.Targets(buf), plainTargets(buf); !slices.Equal(got, want) {
			t.Fatal("targets", got, want)
		}
		if got := impl.Spawns(buf); got != a.spawned {
			t.Fatal("spawns", got, a.spawned)
		}
	}
}

// Only columns that a buffer names are had by more or fewer things behind it,
// if it kills nobody.
func TestTargetsHoldWhatChanges(t *testing.T) {
	r := worldReg()
	a := startWriter(t, r, 77)
	for range 60 {
		buf := slices.DeleteFunc(a.anyBuf(20), func(c impl.Cmd) bool { return c.Kind == impl.CmdKill })
		q, _ := merged(t, r, a.w, [][]impl.Cmd{buf})
		targets := impl.Targets(buf)
		for comp := range r.Comps {
			before, after := impl.Match(a.w, []int{comp}, nil), impl.Match(q, []int{comp}, nil)
			byPlace := func(x, y impl.Ent) int { return x.At - y.At }
			slices.SortFunc(before, byPlace)
			slices.SortFunc(after, byPlace)
			if !slices.Contains(targets, comp) && !slices.Equal(before, after) {
				t.Fatal("column", comp, "is no target, and had by others", before, after)
			}
		}
		a.w = q
	}
}
