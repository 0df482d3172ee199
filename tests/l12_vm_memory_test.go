package tests

import (
	"testing"

	"loop.example/g00070/impl"
)

func sameStreamMemory(a, b impl.Stream) bool {
	return a.First == b.First && sameMemory(a.Old, b.Old) && sameMemory(a.New, b.New)
}

// roomyState is s with room ahead of each list and behind it.
func (g *guards) roomyState(s impl.State) impl.State {
	q := impl.State{World: g.roomyWorld(s.World), Cursors: guardIn(g, s.Cursors, 3, sameInt)}
	for _, one := range s.Streams {
		q.Streams = append(q.Streams, g.roomyStream(impl.KInt, one))
	}
	q.Streams = guardIn(g, q.Streams, impl.Stream{First: 4}, sameStreamMemory)
	return q
}

// roomyProgram has instructions, functions and lists in its spare room that
// could be done.
func (g *guards) roomyProgram(p impl.Program) impl.Program {
	var lists [][]int
	for _, list := range p.Lists {
		lists = append(lists, guardIn(g, list, 0, sameInt))
	}
	return impl.Program{
		Code:   guardIn(g, p.Code, impl.Ins{Op: impl.IEnd}, sameIns),
		Starts: guardIn(g, p.Starts, 0, sameInt),
		Slots:  guardIn(g, p.Slots, 1, sameInt),
		Lists:  guardIn(g, lists, []int{0}, sameMemory[int]),
	}
}

// done writes over all lists of an answer.
func (s *stamps) done(d impl.Done) {
	s.world(d.State.World)
	for _, one := range d.State.Streams {
		s.stream(one)
	}
	stamp(s, d.State.Streams, func(n int) impl.Stream { return impl.Stream{First: n} }, func(q impl.Stream) int { return q.First })
	s.ints(d.State.Cursors)
	for _, c := range d.Cmds {
		stamp(s, c.List, func(n int) impl.Cell { return impl.Cell{Comp: n} }, func(c impl.Cell) int { return c.Comp })
	}
	stamp(s, d.Cmds, func(n int) impl.Cmd { return impl.Cmd{Kind: n} }, func(c impl.Cmd) int { return c.Kind })
}

// memoryPrograms holds programs that end by themselves, and such as do not.
func memoryPrograms() []impl.Program {
	lists := [][]int{{0}, nil, {0, 1}, {2, 0, 1}}
	list := []impl.Program{{}, {Starts: []int{0}, Slots: []int{0}}, {Code: make([]impl.Ins, impl.MaxCode+1), Starts: []int{0}, Slots: []int{0}}}
	for _, code := range []string{
		"End", "Forget", "Tick, Jump 0", "Push 1, Push 0, Op 4, End",
		"Push 5, Store 0, Local 0, SetRes 0, Push 2.5, Push 3.5, Pair, SetRes 2, End",
		"Each 0 1, Next 8, Push 1, Push 2.5, Spawn 2, Push 3, SetComp 0, Jump 1, End",
		"Each 0 1, Next 8, Kill, Push 7, Put 4, Drop 0, Spawn 1, Jump 1, End",
		"Res 2, Push 1, Push 2.5, Spawn 3, Push 1, Push 2.5, Spawn 2, End",
		"Hear 0, More 6 0, Local 0, Emit 0, Tick, Jump 1, End",
		"Push 8, Loop 6, Push 4, Emit 0, Hear 0, Jump 1, End",
		"Push 300, Loop 5, Push 4, Emit 0, Jump 1, End",
	} {
		list = append(list, program(1, code, lists...))
	}
	return append(list, callsDown(20, 3))
}

func TestMachineLeavesTheArgumentsAlone(t *testing.T) {
	states := []regState{{"by hand", checkReg(), runState()}, {"nearly full", checkReg(), fullState()}}
	for i, c := range wrongStates() {
		if i%6 == 0 {
			states = append(states, c)
		}
	}
	for _, c := range states {
		for i, p := range memoryPrograms() {
			for _, fuel := range []int{-1, 0, 3, 50, impl.MaxFuel} {
				var g guards
				var s stamps
				r, prog, state := g.roomyReg(c.r), g.roomyProgram(p), g.roomyState(c.s)
				if impl.StateOk(r, state) != impl.StateOk(c.r, c.s) {
					t.Fatal("spare room is looked at by StateOk:", c.what)
				}
				want := impl.Machine(c.r, p, c.s, fuel)
				d, again := impl.Machine(r, prog, state, fuel), impl.Machine(r, prog, state, fuel)
				if !sameDone(d, want) || !sameDone(again, want) {
					t.Fatal("spare room is looked at, or something is kept from call to call", i, fuel)
				}
				s.done(d)
				if !sameDone(again, want) {
					t.Fatal("two answers share memory", i, fuel)
				}
				s.done(again)
				if !g.kept() {
					t.Fatal("an argument was written into, or shares memory with an answer", i, fuel)
				}
				if !s.kept() {
					t.Fatal("two lists of an answer share memory", i, fuel)
				}
				if third := impl.Machine(r, prog, state, fuel); !sameDone(third, want) {
					t.Fatal("the third answer is another one", i, fuel)
				}
			}
		}
	}
}

// fullState has streams that are nearly full, and cursors of any numbers.
func fullState() impl.State {
	s := runState()
	for i, kind := range []int{impl.KInt, impl.KReal, impl.KPair, impl.KBool} {
		s.Streams[i] = stream(i, filled(kind, 5+i), filled(kind, impl.MaxEvents-i))
	}
	s.Cursors = []int{leastInt, mostInt, 3, -1}
	return s
}

// Lists of one argument may lie in one memory; an answer's may not.
func TestStateThatSharesInTheArgument(t *testing.T) {
	events, nums := numbered(0, 6), []int{0, 1, 0, 1}
	r := impl.Reg{
		Comps: []impl.Decl{decl("A", impl.KInt), decl("B", impl.KInt)},
		Ress:  []impl.Decl{decl("C", impl.KInt)},
		Evts:  []impl.Decl{decl("D", impl.KInt), decl("E", impl.KInt)},
	}
	s := impl.State{
		World: impl.World{
			Ents:   impl.Ents{Gens: nums[:3]},
			Tables: []impl.Table{{Cols: nums[:2], Rows: []impl.Ent{ent(0, 0), ent(1, 1)}, Cells: [][]impl.Val{events[:2], events[:2]}}, {Cols: nums[:1], Rows: []impl.Ent{ent(2, 0)}, Cells: [][]impl.Val{events[2:3]}}},
			Res:    events[:1],
		},
		Streams: []impl.Stream{stream(0, events[:3], events[1:]), stream(2, events, events[:2])},
		Cursors: nums[:2],
	}
	if !impl.StateOk(r, s) {
		t.Fatal("not right")
	}
	was := cloneState(s)
	p := impl.Program{Code: codeOf("Each 0 1, Next 6, Comp 0, Push 7, SetComp 0, Jump 9, Push 3, SetRes 0, Jump 11, Emit 0, Jump 1, Hear 1, Push 8, Emit 1, Push 4, Push 5, Spawn 2, End"), Starts: nums[:1], Slots: nums[:1], Lists: [][]int{nums[:1], nil, nums[:2]}}
	want := ran(t, r, p, was, 99)
	d := ran(t, r, p, s, 99)
	if want.Fault != impl.FaultNone || !sameDone(d, want) || !sameState(s, was) {
		t.Error("shared lists are run in another way", doneText(d), doneText(want))
	}
	var st stamps
	st.done(d)
	if !st.kept() || !sameState(s, was) || nums[0] != 0 || nums[1] != 1 {
		t.Error("memory is shared")
	}
}
