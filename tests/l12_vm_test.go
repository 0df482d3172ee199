package tests

import (
	"slices"
	"testing"

	"loop.example/g00070/impl"
)

func TestMachineConstants(t *testing.T) {
	if impl.MaxFuel != 2000 || impl.MaxCode != 12000 || impl.MaxStack != 4000 || impl.MaxFrames != 1200 {
		t.Error("limits")
	}
	for i, n := range []int{impl.FaultNone, impl.FaultBad, impl.FaultZero, impl.FaultFuel, impl.FaultFull, impl.FaultCode} {
		if n != i {
			t.Error("fault", i, "is", n)
		}
	}
}

func TestStateOk(t *testing.T) {
	if s := runState(); !impl.StateOk(checkReg(), s) {
		t.Error("by hand")
	}
	for _, c := range rightWorlds() {
		s := impl.State{World: c.w, Streams: make([]impl.Stream, len(c.r.Evts)), Cursors: make([]int, len(c.r.Evts))}
		if !impl.StateOk(c.r, s) {
			t.Error("right:", c.what)
		}
	}
	for _, c := range rightStreams() {
		r := impl.Reg{Evts: []impl.Decl{decl("Hit", impl.KInt), decl("Other", c.kind)}}
		s := impl.State{Streams: []impl.Stream{{}, c.s}, Cursors: []int{0, 0}}
		for _, cursor := range someCursors(c.s) {
			s.Cursors[1] = cursor
			if !impl.StateOk(r, s) {
				t.Error("right:", c.what, cursor)
			}
		}
	}
	if !impl.StateOk(impl.Reg{}, impl.State{}) {
		t.Error("nothing at all is right")
	}
}

// rowCase is a small program of one function, and what it leaves.
type rowCase struct {
	slots int
	code  string
	lists [][]int
	steps int
	then  func(d *impl.Done)
}

func allRun(t *testing.T, list []rowCase) {
	t.Helper()
	for _, c := range list {
		p := program(c.slots, c.code, c.lists...)
		leftBehind(t, c.code, p, runState(), impl.MaxFuel, func(d *impl.Done) {
			d.Steps = c.steps
			c.then(d)
		})
		byFuel(t, checkReg(), p, runState())
	}
}

func nothingElse(*impl.Done) {}

// resBecomes writes down another value of a resource.
func resBecomes(at int, v impl.Val) func(d *impl.Done) {
	return func(d *impl.Done) { d.State.World.Res[at] = v }
}

func TestRowsOfValues(t *testing.T) {
	allRun(t, []rowCase{
		{0, "End", nil, 0, nothingElse},
		{0, "Push 7, End", nil, 0, nothingElse},
		{0, "Push 7, SetRes 0, End", nil, 0, resBecomes(0, whole(7))},
		{0, "Push 2.5, SetRes 1, End", nil, 0, resBecomes(1, float(2.5))},
		{0, "Push yes, SetRes 3, End", nil, 0, resBecomes(3, yesNo(true))},
		{0, "Push 7, Push 8, SetRes 0, End", nil, 0, resBecomes(0, whole(8))},
		{2, "Push 7, Store 1, Push 8, Store 0, Local 1, SetRes 0, End", nil, 0, resBecomes(0, whole(7))},
		{2, "Push 7, Store 1, Push 8, Store 0, Local 0, SetRes 0, End", nil, 0, resBecomes(0, whole(8))},
		{1, "Push 7, Store 0, Push yes, Store 0, Local 0, SetRes 3, End", nil, 0, resBecomes(3, yesNo(true))},
		{1, "Push 7, Store 0, Local 0, Local 0, Op 3, SetRes 0, End", nil, 0, resBecomes(0, whole(49))},
		{0, "Res 0, Push 1, Op 1, SetRes 0, End", nil, 0, resBecomes(0, whole(1001))},
		{0, "Push 9, Push 4, Op 2, SetRes 0, End", nil, 0, resBecomes(0, whole(5))},
		{0, "Push 9, Push 4, Op 5, SetRes 0, End", nil, 0, resBecomes(0, whole(1))},
		{0, "Push 4, Push 9, Op 6, SetRes 3, End", nil, 0, resBecomes(3, yesNo(true))},
		{0, "Push 1.5, Push 0.0, Op 4, SetRes 1, End", nil, 0, resBecomes(1, float(inf))},
		{0, "Push no, Push yes, Op 9, SetRes 3, End", nil, 0, resBecomes(3, yesNo(true))},
		{0, "Push 7, Turn 1, SetRes 0, End", nil, 0, resBecomes(0, whole(-7))},
		{0, "Res 2, Turn 3, SetRes 1, End", nil, 0, resBecomes(1, float(negZero))},
		{0, "Res 2, Turn 4, SetRes 1, End", nil, 0, resBecomes(1, float(2))},
		{0, "Push 1.5, Push 2.5, Pair, SetRes 2, End", nil, 0, resBecomes(2, pair(1.5, 2.5))},
		{0, "Push 1, Push 2, Forget, SetRes 0, End", nil, 0, resBecomes(0, whole(1))},
		{0, "Tick, End", nil, 1, nothingElse},
		{0, "Tick, Tick, Tick, End, Tick", nil, 3, nothingElse},
	})
}

func TestRowsOfWays(t *testing.T) {
	allRun(t, []rowCase{
		{0, "Jump 3, Push 1, SetRes 0, End", nil, 0, nothingElse},
		{0, "Push yes, Unless 4, Push 1, SetRes 0, End", nil, 0, resBecomes(0, whole(1))},
		{0, "Push no, Unless 4, Push 1, SetRes 0, End", nil, 0, nothingElse},
		{0, "Push 3, Loop 7, Res 0, Push 1, Op 1, SetRes 0, Jump 1, End", nil, 3, resBecomes(0, whole(1003))},
		{0, "Push 1, Loop 7, Res 0, Push 1, Op 1, SetRes 0, Jump 1, End", nil, 1, resBecomes(0, whole(1001))},
		{0, "Push 0, Loop 7, Res 0, Push 1, Op 1, SetRes 0, Jump 1, End", nil, 0, nothingElse},
		{0, "Push -1, Loop 7, Res 0, Push 1, Op 1, SetRes 0, Jump 1, End", nil, 0, nothingElse},
		{0, "Push -9223372036854775808, Loop 3, Jump 1, End", nil, 0, nothingElse},
		// what is left on the stack: one less, or nothing
		{0, "Push 5, Loop 3, SetRes 0, End", nil, 0, resBecomes(0, whole(4))},
		{0, "Push 8, Push 0, Loop 3, SetRes 0, End", nil, 0, resBecomes(0, whole(8))},
		{0, "Push 8, Push no, Unless 3, SetRes 0, End", nil, 0, resBecomes(0, whole(8))},
		{0, "Push 8, Push yes, Unless 3, SetRes 0, End", nil, 0, resBecomes(0, whole(8))},
		// rounds within rounds
		{0, "Push 3, Loop 10, Push 4, Loop 9, Res 0, Push 1, Op 1, SetRes 0, Jump 3, Jump 1, End", nil, 15, resBecomes(0, whole(1012))},
	})
}

func TestRowsOfThings(t *testing.T) {
	with := [][]int{{0}, nil, {0, 4}}
	allRun(t, []rowCase{
		{0, "Each 0 1, Next 4, Comp 0, SetRes 0, End", with, 0, resBecomes(0, whole(10))},
		{0, "Each 0 1, Next 5, Comp 0, SetRes 0, Jump 1, End", with, 4, resBecomes(0, whole(40))},
		{0, "Each 0 1, Next 5, Push 99, SetComp 0, Jump 1, End", with, 4, func(d *impl.Done) {
			w := d.State.World
			w.Tables[0].Cells[0] = []impl.Val{whole(99), whole(99)}
			w.Tables[2].Cells[0][0], w.Tables[4].Cells[0][0] = whole(99), whole(99)
		}},
		{0, "Each 0 2, Next 5, Push 99, SetComp 0, Jump 1, End", [][]int{{0}, nil, {4}}, 2, func(d *impl.Done) {
			w := d.State.World
			w.Tables[2].Cells[0][0], w.Tables[4].Cells[0][0] = whole(99), whole(99)
		}},
		{0, "Each 0 1, Next 9, Comp 0, Comp 1, SetRes 1, Push 2.5, SetComp 1, SetRes 0, Jump 1, End", [][]int{{1, 0}, nil}, 1, func(d *impl.Done) {
			d.State.World.Res[0], d.State.World.Res[1] = whole(50), float(0.5)
			d.State.World.Tables[2].Cells[1][0] = float(2.5)
		}},
		// what a cell has become is seen by the next one that asks
		{0, "Each 0 1, Next 4, Push 3, SetComp 0, Comp 0, SetRes 0, End", with, 0, func(d *impl.Done) {
			d.State.World.Res[0] = whole(3)
			d.State.World.Tables[0].Cells[0][0] = whole(3)
		}},
		// each in its order: the number of the thing is written into it
		{1, "Push 0, Store 0, Each 0 1, Next 11, Local 0, Push 1, Op 1, Store 0, Local 0, SetComp 0, Jump 3, End", with, 4, func(d *impl.Done) {
			w := d.State.World
			w.Tables[0].Cells[0] = []impl.Val{whole(1), whole(2)}
			w.Tables[2].Cells[0][0], w.Tables[4].Cells[0][0] = whole(3), whole(4)
		}},
		{0, "Each 0 1, Next 2, Push 1, Pick 2, SetRes 0, End", with, 0, resBecomes(0, whole(1))},
		{0, "Each 0 1, Next 2, Push 0, Pick 2, SetRes 0, End", with, 0, resBecomes(0, whole(10))},
		{0, "Each 0 1, Next 2, Next 3, Push 3, Pick 2, SetRes 0, End", with, 0, resBecomes(0, whole(3))},
		// none is asked for: all things, also the one without any column
		{0, "Each 0 0, Next 7, Res 0, Push 1, Op 1, SetRes 0, Jump 1, End", [][]int{nil}, 5, resBecomes(0, whole(1005))},
		// lists that name no column
		{0, "Each 0 1, Next 4, Tick, Jump 1, End", [][]int{{8}, nil}, 0, nothingElse},
		{0, "Each 1 0, Next 4, Tick, Jump 1, End", [][]int{{8, -1, leastInt}, nil}, 10, nothingElse},
		{0, "Each 1 1, Next 4, Tick, Jump 1, End", [][]int{nil, {0}}, 0, nothingElse},
	})
}

func TestRowsOfEvents(t *testing.T) {
	sum := "Hear 0, More 7 0, Res 0, Local 0, Op 1, SetRes 0, Jump 1, End"
	allRun(t, []rowCase{
		{1, sum, nil, 2, func(d *impl.Done) {
			d.State.World.Res[0] = whole(1000 + 6 + 7)
			d.State.Cursors[0] = 8
		}},
		{0, "Hear 1, End", nil, 0, func(d *impl.Done) { d.State.Cursors[1] = 9 }},
		{0, "Hear 2, End", nil, 0, func(d *impl.Done) { d.State.Cursors[2] = 4 }},
		{1, "Hear 3, More 5 0, Local 0, SetRes 3, Jump 1, End", nil, 1, func(d *impl.Done) {
			d.State.World.Res[3] = yesNo(true)
			d.State.Cursors[3] = 1
		}},
		// heard twice: the second time nothing is left
		{1, "Hear 0, Hear 0, More 4 0, Tick, End", nil, 0, func(d *impl.Done) { d.State.Cursors[0] = 8 }},
		// what is to come is that of the last one that was heard
		{1, "Hear 0, Hear 3, More 5 0, Local 0, SetRes 3, End", nil, 0, func(d *impl.Done) {
			d.State.World.Res[3] = yesNo(true)
			d.State.Cursors[0], d.State.Cursors[3] = 8, 1
		}},
		{0, "Push 70, Emit 0, Push 71, Emit 0, End", nil, 0, func(d *impl.Done) {
			d.State.Streams[0].New = []impl.Val{whole(7), whole(70), whole(71)}
		}},
		{0, "Res 2, Emit 2, Push 1.5, Emit 1, Push no, Emit 3, End", nil, 0, func(d *impl.Done) {
			d.State.Streams[2].New = []impl.Val{pair(negZero, 2)}
			d.State.Streams[1].New = []impl.Val{float(1.5)}
			d.State.Streams[3].New = []impl.Val{yesNo(true), yesNo(false)}
		}},
		// emitted and heard in one run
		{1, "Push 70, Emit 0, " + "Hear 0, More 9 0, Res 0, Local 0, Op 1, SetRes 0, Jump 3, End", nil, 3, func(d *impl.Done) {
			d.State.World.Res[0] = whole(1000 + 6 + 7 + 70)
			d.State.Streams[0].New = []impl.Val{whole(7), whole(70)}
			d.State.Cursors[0] = 9
		}},
		// emitted behind the hearing: it is not heard by that one
		{1, "Hear 0, Push 70, Emit 0, More 9 0, Res 0, Local 0, Op 1, SetRes 0, Jump 3, End", nil, 2, func(d *impl.Done) {
			d.State.World.Res[0] = whole(1000 + 6 + 7)
			d.State.Streams[0].New = []impl.Val{whole(7), whole(70)}
			d.State.Cursors[0] = 8
		}},
		// and is, by the next one
		{1, "Hear 0, Push 70, Emit 0, Hear 0, More 10 0, Res 0, Local 0, Op 1, SetRes 0, Jump 4, End", nil, 1, func(d *impl.Done) {
			d.State.World.Res[0] = whole(1000 + 70)
			d.State.Streams[0].New = []impl.Val{whole(7), whole(70)}
			d.State.Cursors[0] = 9
		}},
	})
}

func TestRowsOfCommands(t *testing.T) {
	allRun(t, []rowCase{
		{0, "Spawn 0, End", [][]int{nil}, 0, func(d *impl.Done) { d.Cmds = []impl.Cmd{cmdSpawn()} }},
		{0, "Push 1, Push 2.5, Spawn 0, End", [][]int{{4, 1}}, 0, func(d *impl.Done) {
			d.Cmds = []impl.Cmd{cmdSpawn(cell(4, whole(1)), cell(1, float(2.5)))}
		}},
		{0, "Push 9, Push 1, Push 2, Spawn 0, SetRes 0, End", [][]int{{0, 4}}, 0, func(d *impl.Done) {
			d.Cmds = []impl.Cmd{cmdSpawn(cell(0, whole(1)), cell(4, whole(2)))}
			d.State.World.Res[0] = whole(9)
		}},
		{0, "Each 0 1, Next 4, Kill, Jump 1, End", [][]int{{4}, nil}, 2, func(d *impl.Done) {
			d.Cmds = []impl.Cmd{cmdKill(ent(0, 4)), cmdKill(ent(3, 1))}
		}},
		{0, "Each 0 1, Next 4, Kill, Kill, End", [][]int{{4}, nil}, 0, func(d *impl.Done) {
			d.Cmds = []impl.Cmd{cmdKill(ent(0, 4)), cmdKill(ent(0, 4))}
		}},
		{0, "Each 0 1, Next 5, Push 2.5, Put 1, Jump 1, End", [][]int{{4}, nil}, 2, func(d *impl.Done) {
			d.Cmds = []impl.Cmd{cmdPut(ent(0, 4), 1, float(2.5)), cmdPut(ent(3, 1), 1, float(2.5))}
		}},
		// of a column that it has, too, and that is not seen by who asks then
		{0, "Each 0 1, Next 7, Push 9, Put 0, Comp 0, SetRes 0, Jump 1, End", [][]int{{2}, nil}, 1, func(d *impl.Done) {
			d.Cmds = []impl.Cmd{cmdPut(ent(5, 2), 0, whole(9))}
			d.State.World.Res[0] = whole(50)
		}},
		{0, "Each 0 1, Next 5, Drop 0, Drop 7, Jump 1, End", [][]int{{2}, nil}, 1, func(d *impl.Done) {
			d.Cmds = []impl.Cmd{cmdDrop(ent(5, 2), 0), cmdDrop(ent(5, 2), 7)}
		}},
		// of each kind, in order, and done by nobody
		{0, "Push 8, Spawn 2, Each 0 1, Next 9, Drop 0, Push no, Put 7, Kill, Jump 3, Spawn 1, End", [][]int{{2}, nil, {0}}, 1, func(d *impl.Done) {
			d.Cmds = []impl.Cmd{cmdSpawn(cell(0, whole(8))), cmdDrop(ent(5, 2), 0), cmdPut(ent(5, 2), 7, yesNo(false)), cmdKill(ent(5, 2)), cmdSpawn()}
		}},
		// who is killed, or has a column taken away, is there to the end
		{0, "Each 0 1, Next 7, Kill, Drop 0, Push 5, SetComp 0, Jump 1, Each 0 1, Next 11, Tick, Jump 8, End", [][]int{{4}, nil}, 2 + 4, func(d *impl.Done) {
			d.Cmds = []impl.Cmd{cmdKill(ent(0, 4)), cmdDrop(ent(0, 4), 0), cmdKill(ent(3, 1)), cmdDrop(ent(3, 1), 0)}
			d.State.World.Tables[0].Cells[0] = []impl.Val{whole(5), whole(5)}
		}},
	})
}

func TestRowsOfCalls(t *testing.T) {
	for _, c := range []struct {
		code   string
		starts []int
		slots  []int
		steps  int
		then   func(d *impl.Done)
	}{
		// the deepest one is the first local
		{"Local 0, Local 1, Op 2, Back, Push 9, Push 4, Call 0 2, SetRes 0, End", []int{0, 4}, []int{2, 0}, 1, resBecomes(0, whole(5))},
		{"Local 0, Back, Push 9, Push 4, Call 0 2, SetRes 0, End", []int{0, 2}, []int{2, 0}, 1, resBecomes(0, whole(9))},
		// fewer than it has locals, and none
		{"Push 3, Store 1, Local 0, Local 1, Op 3, Back, Push 9, Call 0 1, SetRes 0, End", []int{0, 6}, []int{2, 0}, 1, resBecomes(0, whole(27))},
		{"Push 3, Back, Call 0 0, SetRes 0, End", []int{0, 2}, []int{0, 0}, 1, resBecomes(0, whole(3))},
		// what is below stays; what a function leaves on the stack stays, too
		{"Local 0, Back, Push 5, Push 9, Call 0 1, Forget, SetRes 0, End", []int{0, 2}, []int{1, 0}, 1, resBecomes(0, whole(5))},
		{"Push 6, Push 7, Back, Call 0 0, Forget, SetRes 0, End", []int{0, 3}, []int{0, 0}, 1, resBecomes(0, whole(6))},
		// the stack is one: a function takes what its caller laid on it
		{"Push 1, Op 1, Back, Push 9, Call 0 0, SetRes 0, End", []int{0, 3}, []int{0, 0}, 1, resBecomes(0, whole(10))},
		// functions that call functions, whatever their numbers are
		{"Local 0, Push 1, Op 1, Back, Local 0, Call 0 1, Call 0 1, Back, Push 5, Call 1 1, SetRes 0, End", []int{0, 4, 8}, []int{1, 1, 0}, 3, resBecomes(0, whole(7))},
		{"Local 0, Call 1 1, Back, Local 0, Push 1, Op 1, Back, Push 5, Call 0 1, SetRes 0, End", []int{0, 3, 7}, []int{1, 1, 0}, 2, resBecomes(0, whole(6))},
		// one that calls itself: 5 and 4 and so on
		{"Local 0, Push 1, Op 6, Unless 6, Push 0, Back, Local 0, Local 0, Push 1, Op 2, Call 0 1, Op 1, Back, Push 5, Call 0 1, SetRes 0, End", []int{0, 13}, []int{1, 0}, 6, resBecomes(0, whole(15))},
		// locals are those of the call: each call has its own, and those of the caller come back
		{"Push 77, Store 0, Push 0, Back, Push 5, Store 0, Call 0 0, Forget, Local 0, SetRes 0, End", []int{0, 4}, []int{1, 1}, 1, resBecomes(0, whole(5))},
		// the last function may be called as any other, and is begun with its own locals
		{"Push 3, Back, Res 3, Unless 6, Push 4, Back, Push yes, SetRes 3, Call 1 0, SetRes 0, End", []int{0, 2}, []int{0, 0}, 1, func(d *impl.Done) {
			d.State.World.Res[0], d.State.World.Res[3] = whole(4), yesNo(true)
		}},
		{"Push 3, Back, Push 8, Store 4, Local 4, SetRes 0, End", []int{0, 2}, []int{0, 5}, 0, resBecomes(0, whole(8))},
		// functions may stand anywhere, and share code
		{"Push 8, SetRes 0, End, Push 3, Back", []int{3, 0}, []int{0, 0}, 0, resBecomes(0, whole(8))},
		{"Call 0 0, SetRes 0, End, Push 2, Push 3, Back", []int{4, 3, 0}, []int{0, 0, 0}, 1, resBecomes(0, whole(3))},
	} {
		p := impl.Program{Code: codeOf(c.code), Starts: c.starts, Slots: c.slots}
		leftBehind(t, c.code, p, runState(), impl.MaxFuel, func(d *impl.Done) {
			d.Steps = c.steps
			c.then(d)
		})
		byFuel(t, checkReg(), p, runState())
	}
}

// The thing, the things to come and the events to come are the machine's, not
// a function's.
func TestFunctionsSeeTheThing(t *testing.T) {
	p := impl.Program{
		Code:   codeOf("Comp 0, Back, Each 0 1, Next 7, Call 0 0, SetRes 0, Jump 3, End"),
		Starts: []int{0, 2}, Slots: []int{0, 0}, Lists: [][]int{{0}, nil},
	}
	leftBehind(t, "the thing", p, runState(), 100, func(d *impl.Done) {
		d.Steps = 8
		d.State.World.Res[0] = whole(40)
	})
	p.Code = codeOf("Next 3, Comp 0, Back, Push -1, Back, Each 0 1, Call 0 0, SetRes 0, Call 0 0, Res 0, Op 1, SetRes 0, End")
	p.Starts = []int{0, 5}
	leftBehind(t, "things to come", p, runState(), 100, func(d *impl.Done) {
		d.Steps = 2
		d.State.World.Res[0] = whole(10 + 30)
	})
	p = impl.Program{Code: codeOf("More 3 1, Local 1, Back, Push -1, Back, Hear 0, Call 0 0, SetRes 0, Call 0 0, Res 0, Op 1, SetRes 0, End"), Starts: []int{0, 5}, Slots: []int{2, 0}}
	leftBehind(t, "events to come", p, runState(), 100, func(d *impl.Done) {
		d.Steps = 2
		d.State.World.Res[0] = whole(6 + 7)
		d.State.Cursors[0] = 8
	})
}

// Each right value of every kind, pushed, stored, laid again, and left.
func TestRowsWithEveryValue(t *testing.T) {
	for _, v := range rightValues() {
		at := v.Kind - 1
		p := impl.Program{
			Code:   []impl.Ins{{Op: impl.IPush, V: v}, {Op: impl.IStore}, {Op: impl.ILocal}, {Op: impl.ISetRes, A: at}, {Op: impl.IRes, A: at}, {Op: impl.IEmit, A: at}, {Op: impl.IPush, V: v}, {Op: impl.ISpawn}, {Op: impl.IEach, A: 1, B: 2}, {Op: impl.INext, A: 11}, {Op: impl.IPush, V: v}, {Op: impl.IPut, A: at}, {Op: impl.IEnd}},
			Starts: []int{0}, Slots: []int{1}, Lists: [][]int{{at}, {2}, nil},
		}
		leftBehind(t, impl.ValText(v), p, runState(), 0, func(d *impl.Done) {
			d.State.World.Res[at] = v
			d.State.Streams[at].New = append(d.State.Streams[at].New, v)
			d.Cmds = []impl.Cmd{cmdSpawn(cell(at, v)), cmdPut(ent(5, 2), at, v)}
		})
		p = impl.Program{
			Code:   []impl.Ins{{Op: impl.IEach, A: 0, B: 1}, {Op: impl.INext, A: 2}, {Op: impl.IPush, V: v}, {Op: impl.ISetComp, A: at}, {Op: impl.IComp, A: at}, {Op: impl.ISetRes, A: at}, {Op: impl.IEnd}},
			Starts: []int{0}, Slots: []int{0}, Lists: [][]int{{2}, nil},
		}
		leftBehind(t, impl.ValText(v), p, runState(), 0, func(d *impl.Done) {
			d.State.World.Res[at] = v
			d.State.World.Tables[2].Cells[at][0] = v
		})
	}
}

// Each op and turn and each pair of values: what chapter 1 tells of them, with
// the deeper one on the left.
func TestRowsWithEveryOp(t *testing.T) {
	values := append(rightValues(), whole(0), whole(3), float(3), pair(1, 1))
	ops := []int{leastInt, -1, 0, 1, 2, 3, 4, 5, 6, 7, 8, 9, 10, 1 << 32, mostInt}
	faults := map[int]int{}
	try := func(v impl.Val, fault int, code ...impl.Ins) {
		t.Helper()
		at := max(v.Kind-1, 0)
		p := impl.Program{Code: append(code, impl.Ins{Op: impl.ISetRes, A: at}, impl.Ins{Op: impl.IEnd}), Starts: []int{0}, Slots: []int{0}}
		want := impl.Done{State: runState(), Fault: fault}
		if fault == impl.FaultNone {
			want.State.World.Res[at] = v
		}
		faults[fault]++
		if d := impl.Machine(checkReg(), p, runState(), 0); !sameDone(d, want) {
			t.Fatalf("%s\nhave %s\nwant %s", progText(p), doneText(d), doneText(want))
		}
	}
	byCode := map[int]int{impl.OpDone: impl.FaultNone, impl.OpKind: impl.FaultCode, impl.OpZero: impl.FaultZero}
	for i, a := range values {
		for _, op := range ops {
			for k := i % 3; k < len(values); k += 3 {
				v, code := impl.ValOp(op, a, values[k])
				try(v, byCode[code], impl.Ins{Op: impl.IPush, V: a}, impl.Ins{Op: impl.IPush, V: values[k]}, impl.Ins{Op: impl.IOp, A: op})
			}
			v, code := impl.ValTurn(op, a)
			try(v, byCode[code], impl.Ins{Op: impl.IPush, V: a}, impl.Ins{Op: impl.ITurn, A: op})
		}
		for _, b := range values {
			fault := impl.FaultCode
			v, ok := impl.ValPair(a, b)
			if ok {
				fault = impl.FaultNone
			}
			try(v, fault, impl.Ins{Op: impl.IPush, V: a}, impl.Ins{Op: impl.IPush, V: b}, impl.Ins{Op: impl.IPair})
		}
	}
	if faults[impl.FaultNone] < 1000 || faults[impl.FaultZero] < 20 || faults[impl.FaultCode] < 1000 {
		t.Error("too few:", faults)
	}
}

// A run leaves things and tables as they stand, whatever it writes down.
func TestRunsLeaveTheTablesAsTheyStand(t *testing.T) {
	p := program(0, "Each 0 1, Next 9, Kill, Drop 0, Push 3, SetComp 0, Push 4, Put 4, Jump 1, Spawn 1, End", []int{0}, nil)
	d := byFuel(t, checkReg(), p, runState())
	was := runState().World
	for i, tab := range d.State.World.Tables {
		if !slices.Equal(tab.Rows, was.Tables[i].Rows) || !slices.Equal(tab.Cols, was.Tables[i].Cols) {
			t.Error("table", i, tab)
		}
	}
	if !sameEnts(d.State.World.Ents, was.Ents) || len(d.State.World.Tables) != len(was.Tables) || len(d.Cmds) != 13 {
		t.Error("things", d.State.World.Ents, d.Cmds)
	}
	// and they can be done behind it
	w, codes, code := impl.Merge(checkReg(), d.State.World, [][]impl.Cmd{d.Cmds})
	if code != impl.WDone || len(codes) != 1 || !impl.WorldOk(checkReg(), w) {
		t.Error("merged", codes, code)
	}
}
