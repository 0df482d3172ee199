package tests

import (
	"slices"
	"testing"

	"loop.example/g00070/impl"
)

// codesOf is n times one code.
func codesOf(n, code int) []int { return slices.Repeat([]int{code}, n) }

func TestMergeRefusesWrongWorlds(t *testing.T) {
	lists := [][][]impl.Cmd{nil, {}, {nil}, {{cmdSpawn()}, {cmdKill(ent(3, 1))}}, make([][]impl.Cmd, impl.MaxBufs+1)}
	for _, c := range wrongWorlds() {
		for _, bufs := range lists {
			mergeRefused(t, c.what, c.r, c.w, bufs)
		}
	}
}

func TestMostBuffers(t *testing.T) {
	r := worldReg()
	for _, buf := range [][]impl.Cmd{nil, {cmdSpawn(), cmdKill(ent(9, 9))}} {
		most := slices.Repeat([][]impl.Cmd{buf}, impl.MaxBufs)
		q, _ := merged(t, r, handWorld(), most)
		if len(impl.EntList(q.Ents)) != 7+impl.Spawns(buf)*impl.MaxBufs {
			t.Error("the most buffers are not done")
		}
		for _, more := range []int{1, 2, 100} {
			mergeRefused(t, "too many buffers", r, handWorld(), append(slices.Clone(most), slices.Repeat([][]impl.Cmd{buf}, more)...))
		}
	}
}

func TestMostCommands(t *testing.T) {
	r := worldReg()
	for _, c := range []impl.Cmd{cmdSpawn(), cmdKill(ent(9, 9)), {}, cmdPut(ent(1, 0), colHp, whole(1))} {
		most := slices.Repeat([]impl.Cmd{c}, impl.MaxCmds)
		over := slices.Repeat([]impl.Cmd{c}, impl.MaxCmds+1)
		merged(t, r, handWorld(), [][]impl.Cmd{most})
		merged(t, r, handWorld(), slices.Repeat([][]impl.Cmd{most}, impl.MaxBufs))
		for at := range impl.MaxBufs {
			bufs := slices.Repeat([][]impl.Cmd{{cmdSpawn()}}, impl.MaxBufs)
			bufs[at] = over
			mergeRefused(t, "too many commands", r, handWorld(), bufs)
		}
		mergeRefused(t, "too many commands alone", r, handWorld(), [][]impl.Cmd{over})
		mergeRefused(t, "too many commands behind", r, handWorld(), [][]impl.Cmd{most, slices.Repeat(over, 4)})
	}
}

// A number behind the last CmdSpawn so far is nobody, also where that CmdSpawn
// is still to come.
func TestPromisedAndNotMadeSoFar(t *testing.T) {
	r := worldReg()
	dead := impl.WDead
	q := mergedTo(t, r, crowd(2), [][]impl.Cmd{{
		cmdKill(promised(1)),
		cmdPut(promised(1), colHp, whole(9)),
		cmdDrop(promised(1), colHp),
		cmdSpawn(cell(colHp, whole(1))),
		cmdKill(promised(2)),
		cmdPut(promised(2), colHp, whole(9)),
		cmdDrop(promised(2), colHp),
		cmdPut(promised(1), colHp, whole(2)),
		cmdSpawn(cell(colOn, yesNo(true))),
		cmdPut(promised(3), colOn, yesNo(false)),
		cmdDrop(promised(2), colOn),
	}}, []int{dead, dead, dead, 0, dead, dead, dead, 0, 0, dead, 0})
	hasVals(t, r, q, ent(2, 0), map[int]impl.Val{colHp: whole(2)})
	hasVals(t, r, q, ent(3, 0), nil)
}

// nobodies holds things that are promised by no CmdSpawn of a buffer with two,
// or that are no promised things at all.
func nobodies() []impl.Ent {
	return []impl.Ent{
		promised(3), promised(4), promised(60), promised(61), ent(leastInt, 0), ent(leastInt+1, 0), ent(leastInt+2, 0),
		ent(-1, 1), ent(-1, -1), ent(-2, 1), ent(-2, leastInt), ent(-1, mostInt), ent(-1, impl.MaxGen), ent(-3, 3),
		ent(leastInt, leastInt), ent(mostInt, 0), ent(mostInt, mostInt), ent(4, 1), ent(9, 0),
	}
}

func TestWhoIsNobody(t *testing.T) {
	r := worldReg()
	for _, who := range nobodies() {
		buf := []impl.Cmd{cmdSpawn(), cmdSpawn(cell(colHp, whole(5))), cmdKill(who), cmdPut(who, colHp, whole(9)), cmdDrop(who, colHp)}
		q := mergedTo(t, r, crowd(2), [][]impl.Cmd{buf}, []int{0, 0, impl.WDead, impl.WDead, impl.WDead})
		hasVals(t, r, q, ent(3, 0), map[int]impl.Val{colHp: whole(5)})
		mergedTo(t, r, crowd(2), [][]impl.Cmd{buf[2:]}, codesOf(3, impl.WDead))
	}
}

// A command that is not right is WBad ahead of who it is about.
func TestWrongAheadOfDead(t *testing.T) {
	r := worldReg()
	for _, who := range append(nobodies(), promised(1), promised(2), ent(0, 0), ent(1, 1)) {
		mergedTo(t, r, crowd(2), [][]impl.Cmd{{
			cmdPut(who, colHp, float(1)), cmdPut(who, -1, whole(1)), cmdPut(who, colOn+1, whole(1)), cmdDrop(who, -1), cmdDrop(who, colOn+1), {Who: who}, {Kind: 5, Who: who},
		}}, codesOf(7, impl.WBad))
	}
}

// A CmdSpawn that is not right has its number, and makes nobody; above all not
// the first thing of all, which it would be by its zero value.
func TestPromisedByAWrongSpawn(t *testing.T) {
	r := worldReg()
	for _, bad := range wrongCmds() {
		if bad.Kind != impl.CmdSpawn {
			continue
		}
		q := mergedTo(t, r, crowd(1), [][]impl.Cmd{{
			bad,
			cmdPut(promised(1), colHp, whole(9)), cmdDrop(promised(1), colHp), cmdKill(promised(1)),
			cmdSpawn(cell(colHp, whole(1))),
			cmdPut(promised(1), colHp, whole(9)), cmdPut(promised(2), colHp, whole(2)),
			bad,
			cmdSpawn(cell(colHp, whole(4))),
			cmdKill(promised(3)), cmdPut(promised(4), colHp, whole(44)), cmdPut(promised(5), colHp, whole(55)),
		}}, []int{impl.WBad, impl.WDead, impl.WDead, impl.WDead, 0, impl.WDead, 0, impl.WBad, 0, impl.WDead, 0, impl.WDead})
		hasVals(t, r, q, ent(0, 0), map[int]impl.Val{colHp: whole(0)})
		hasVals(t, r, q, ent(1, 0), map[int]impl.Val{colHp: whole(2)})
		hasVals(t, r, q, ent(2, 0), map[int]impl.Val{colHp: whole(44)})
	}
}

// A CmdKill, CmdPut or CmdDrop, or a command of no kind, has no number.
func TestOtherKindsPromiseNothing(t *testing.T) {
	r := worldReg()
	for _, kind := range append(noKinds, impl.CmdKill, impl.CmdPut, impl.CmdDrop) {
		other := impl.Cmd{Kind: kind, Who: ent(1, 1), Comp: colHp, Val: whole(7), List: []impl.Cell{cell(colHp, whole(8))}}
		q, codes := merged(t, r, crowd(2), [][]impl.Cmd{{other, other, cmdSpawn(), cmdPut(promised(1), colMass, float(1)), cmdPut(promised(2), colMass, float(2)), cmdPut(promised(3), colMass, float(3))}})
		if !slices.Equal(codes[0][2:], []int{0, 0, impl.WDead, impl.WDead}) || len(impl.Match(q, []int{colMass}, nil)) != 1 {
			t.Error("kind", kind, codes)
		}
	}
}

func TestAllThingsTakenWithinAMerge(t *testing.T) {
	r := worldReg()
	full, dead := impl.WFull, impl.WDead
	q := mergedTo(t, r, crowd(impl.MaxEnts-1), [][]impl.Cmd{
		{
			cmdSpawn(cell(colHp, whole(1))),
			cmdSpawn(cell(colHp, whole(2))),
			cmdPut(promised(2), colHp, whole(-2)), cmdDrop(promised(2), colHp), cmdKill(promised(2)),
			cmdPut(promised(1), colHp, whole(11)),
			cmdKill(ent(6, 1)),
			cmdSpawn(cell(colHp, whole(3))),
			cmdPut(promised(2), colHp, whole(-2)),
			cmdPut(promised(3), colHp, whole(33)),
			cmdSpawn(),
			cmdKill(promised(4)),
		},
		{cmdSpawn(), cmdKill(promised(1)), cmdKill(ent(0, 0)), cmdSpawn(), cmdKill(promised(1)), cmdPut(promised(2), colHp, whole(5))},
	}, []int{0, full, dead, dead, dead, 0, 0, 0, dead, 0, full, dead}, []int{full, dead, 0, 0, dead, 0})
	hasVals(t, r, q, ent(impl.MaxEnts-1, 0), map[int]impl.Val{colHp: whole(11)})
	hasVals(t, r, q, ent(6, 2), map[int]impl.Val{colHp: whole(33)})
	hasVals(t, r, q, ent(0, 1), map[int]impl.Val{colHp: whole(5)})
	if len(impl.EntList(q.Ents)) != impl.MaxEnts {
		t.Error("not all taken", len(impl.EntList(q.Ents)))
	}
}

// The last table is had by the first who asks; behind that all goes on among
// those that there are, and a CmdSpawn that is refused takes no place.
func TestAllTablesHadWithinAMerge(t *testing.T) {
	r := wideReg()
	full, dead := impl.WFull, impl.WDead
	w := manyTables(impl.MaxTables - 1)
	q := mergedTo(t, r, w, [][]impl.Cmd{
		{
			cmdSpawn(cell(11, whole(1))),
			cmdSpawn(cell(10, whole(2))),
			cmdPut(promised(2), 11, whole(-2)),
			cmdPut(promised(1), 10, whole(1)),
			cmdSpawn(cell(11, whole(3))),
			cmdPut(promised(3), 11, whole(33)),
			cmdDrop(promised(3), 11),
			cmdPut(ent(0, 0), 9, whole(9)),
			cmdPut(ent(0, 0), 11, whole(9)),
		},
		{cmdSpawn(cell(10, whole(2))), cmdKill(promised(1)), cmdDrop(ent(0, 0), 11), cmdSpawn(), cmdPut(promised(2), 0, whole(4)), cmdPut(promised(2), 8, whole(4))},
	}, []int{0, full, dead, full, 0, 0, 0, full, 0}, []int{full, dead, 0, 0, 0, full})
	if len(q.Tables) != impl.MaxTables || len(impl.EntList(q.Ents)) != impl.MaxTables-1+3 {
		t.Error("tables", len(q.Tables), "things", len(impl.EntList(q.Ents)))
	}
	next := len(w.Ents.Gens)
	hasVals(t, r, q, ent(next, 0), map[int]impl.Val{11: whole(1)})
	hasVals(t, r, q, ent(next+1, 0), nil)
	hasVals(t, r, q, ent(next+2, 0), map[int]impl.Val{0: whole(4)})
}

// A wrong command between right ones is refused alone.
func TestWrongCommandsBetweenRightOnes(t *testing.T) {
	r := worldReg()
	right := []impl.Cmd{cmdSpawn(cell(colHp, whole(1))), cmdPut(ent(3, 1), colOn, yesNo(true)), cmdDrop(ent(4, 0), colOn), cmdKill(ent(8, 3))}
	want, codes := merged(t, r, handWorld(), [][]impl.Cmd{right})
	for _, bad := range wrongCmds() {
		for at := range len(right) + 1 {
			buf := slices.Insert(slices.Clone(right), at, bad)
			q := mergedTo(t, r, handWorld(), [][]impl.Cmd{buf, {bad}}, slices.Insert(slices.Clone(codes[0]), at, impl.WBad), []int{impl.WBad})
			if !sameWorld(q, want) {
				t.Error("a wrong command changes something:", bad)
			}
		}
	}
}

// What a kind does not name changes nothing.
func TestWhatAKindDoesNotName(t *testing.T) {
	r := worldReg()
	lead := []impl.Cmd{cmdSpawn(), cmdSpawn(cell(colHp, whole(2)), cell(colOn, yesNo(true)))}
	for _, c := range append(rightCmds(), wrongCmds()...) {
		plain := append(slices.Clone(lead), c)
		want, codes := merged(t, r, handWorld(), [][]impl.Cmd{plain})
		for _, q := range littered(c) {
			buf := append(slices.Clone(lead), q)
			if got := mergedTo(t, r, handWorld(), [][]impl.Cmd{buf}, codes...); !sameWorld(got, want) {
				t.Error("merge looks at what is not named:", q)
			}
			if !slices.Equal(impl.Targets(buf), impl.Targets(plain)) || impl.Spawns(buf) != impl.Spawns(plain) {
				t.Error("targets or spawns look at what is not named:", q)
			}
		}
	}
}

func TestNoKindHasNoTargets(t *testing.T) {
	for _, kind := range append(noKinds, impl.CmdKill) {
		c := impl.Cmd{Kind: kind, Who: ent(1, 1), Comp: 2, Val: float(1), List: []impl.Cell{cell(3, whole(1))}}
		if list := impl.Targets([]impl.Cmd{c, c}); len(list) != 0 {
			t.Error("targets of kind", kind, list)
		}
		if n := impl.Spawns([]impl.Cmd{c, c}); n != 0 {
			t.Error("spawns of kind", kind, n)
		}
	}
}

// Neither asks whether a command is right.
func TestTargetsOfWrongCommands(t *testing.T) {
	for _, c := range wrongCmds() {
		if got, want := impl.Targets([]impl.Cmd{c, c}), plainTargets([]impl.Cmd{c}); !slices.Equal(got, want) {
			t.Error("targets", c, got, want)
		}
		want := 0
		if c.Kind == impl.CmdSpawn {
			want = 2
		}
		if got := impl.Spawns([]impl.Cmd{c, c}); got != want {
			t.Error("spawns", c, got)
		}
	}
}
