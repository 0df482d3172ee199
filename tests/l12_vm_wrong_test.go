package tests

import (
	"slices"
	"strconv"
	"strings"
	"testing"

	"loop.example/g00070/impl"
)

// regState is a state by its Reg; what tells which one it is.
type regState struct {
	what string
	r    impl.Reg
	s    impl.State
}

// wrongStates holds states each of which breaks one rule of StateOk.
func wrongStates() []regState {
	var list []regState
	turned := func(what string, step func(s *impl.State)) {
		s := cloneState(runState())
		step(&s)
		list = append(list, regState{what, checkReg(), s})
	}
	for i, c := range wrongWorlds() {
		if i < 80 || i%7 == 0 {
			list = append(list, regState{"world: " + c.what, c.r, impl.State{World: c.w, Streams: make([]impl.Stream, len(c.r.Evts)), Cursors: make([]int, len(c.r.Evts))}})
		}
	}
	for i, c := range wrongStreams() {
		if i < 60 || i%7 == 0 {
			r := impl.Reg{Evts: []impl.Decl{decl("Hit", impl.KInt), decl("Other", c.kind)}}
			list = append(list, regState{"stream: " + c.what, r, impl.State{Streams: []impl.Stream{{}, c.s}, Cursors: []int{0, 0}}})
		}
	}
	turned("the world", func(s *impl.State) { s.World.Res[0] = float(1) })
	turned("no world", func(s *impl.State) { s.World = impl.World{} })
	turned("no streams", func(s *impl.State) { s.Streams = nil })
	turned("a stream too few", func(s *impl.State) { s.Streams = s.Streams[:3] })
	turned("a stream too many", func(s *impl.State) { s.Streams = append(s.Streams, impl.Stream{}) })
	turned("no cursors", func(s *impl.State) { s.Cursors = nil })
	turned("a cursor too few", func(s *impl.State) { s.Cursors = s.Cursors[:3] })
	turned("a cursor too many", func(s *impl.State) { s.Cursors = append(s.Cursors, 0) })
	turned("one of both too few", func(s *impl.State) { s.Streams, s.Cursors = s.Streams[:3], s.Cursors[:3] })
	turned("one of both too many", func(s *impl.State) { s.Streams, s.Cursors = append(s.Streams, impl.Stream{}), append(s.Cursors, 0) })
	turned("streams of other kinds", func(s *impl.State) { s.Streams[0], s.Streams[3] = s.Streams[3], s.Streams[0] })
	turned("a full stream and one more", func(s *impl.State) { s.Streams[0].New = numbered(0, impl.MaxEvents+1) })
	for i := range runState().Streams {
		turned("a First below 0", func(s *impl.State) { s.Streams[i].First = -1 })
		turned("an event that is none", func(s *impl.State) { s.Streams[i].New = append(s.Streams[i].New, impl.Val{}) })
	}
	for _, r := range wrongRegs() {
		list = append(list, regState{"the Reg", r, runState()}, regState{"the Reg and nothing", r, impl.State{}})
	}
	list = append(list, regState{"nothing, by a Reg", checkReg(), impl.State{}}, regState{"something, by no Reg", impl.Reg{}, runState()})
	list = append(list, regState{"a stream without a Reg", impl.Reg{}, impl.State{Streams: make([]impl.Stream, 1)}}, regState{"a cursor without a Reg", impl.Reg{}, impl.State{Cursors: []int{0}}})
	return list
}

func TestWrongStates(t *testing.T) {
	right := program(1, "Tick, Push 5, Store 0, Spawn 0, End", nil)
	for _, c := range wrongStates() {
		if impl.StateOk(c.r, c.s) {
			t.Errorf("right: %s", c.what)
		}
		for _, p := range []impl.Program{right, program(0, "End"), {}, {Starts: []int{0}, Slots: []int{0}}, program(0, "Forget")} {
			for _, fuel := range []int{0, 5, impl.MaxFuel, -1, impl.MaxFuel + 1} {
				handedBack(t, c.what, c.r, p, c.s, fuel, impl.FaultBad)
			}
		}
	}
}

// handedBack asks for a fault ahead of any run.
func handedBack(t *testing.T, what string, r impl.Reg, p impl.Program, s impl.State, fuel, fault int) {
	t.Helper()
	was := cloneState(s)
	d := impl.Machine(r, p, s, fuel)
	if !sameDone(d, impl.Done{State: was, Fault: fault}) || !sameState(s, was) {
		t.Errorf("%s, fuel %d: not handed back with the fault %d: %s", what, fuel, fault, doneText(d))
	}
}

func TestWrongFuel(t *testing.T) {
	right := program(0, "Tick, Push 5, SetRes 0, Spawn 0, End", nil)
	for _, fuel := range []int{-1, -2, leastInt, impl.MaxFuel + 1, impl.MaxFuel + 2, 1 << 32, mostInt} {
		for _, p := range []impl.Program{right, {}, program(0, "Forget"), {Code: make([]impl.Ins, impl.MaxCode+1), Starts: []int{0}, Slots: []int{0}}} {
			handedBack(t, "fuel", checkReg(), p, runState(), fuel, impl.FaultBad)
		}
	}
	for _, fuel := range []int{1, 2, impl.MaxFuel - 1, impl.MaxFuel} {
		if d := ran(t, checkReg(), right, runState(), fuel); d.Fault != impl.FaultNone || d.Steps != 1 {
			t.Error("fuel", fuel, doneText(d))
		}
	}
}

func TestWrongPrograms(t *testing.T) {
	code := codeOf("Push 5, SetRes 0, End")
	for _, p := range []impl.Program{
		{},
		{Code: code},
		{Code: code, Slots: []int{0}},
		{Code: code, Starts: []int{0}},
		{Code: code, Starts: []int{0}, Slots: []int{}},
		{Code: code, Starts: []int{}, Slots: []int{0}},
		{Code: code, Starts: []int{0}, Slots: []int{0, 0}},
		{Code: code, Starts: []int{0, 0}, Slots: []int{0}},
		{Code: code, Starts: []int{0, 0, 0}, Slots: []int{0, 0}},
		{Code: append(slices.Clone(code), make([]impl.Ins, impl.MaxCode-2)...), Starts: []int{0}, Slots: []int{0}},
		// no instruction at all
		{Starts: []int{0}, Slots: []int{0}},
		{Starts: []int{-1}, Slots: []int{0}},
		// the first place is none, and its locals are none
		{Code: code, Starts: []int{3}, Slots: []int{0}},
		{Code: code, Starts: []int{-1}, Slots: []int{0}},
		{Code: code, Starts: []int{leastInt}, Slots: []int{0}},
		{Code: code, Starts: []int{mostInt}, Slots: []int{0}},
		{Code: code, Starts: []int{0}, Slots: []int{-1}},
		{Code: code, Starts: []int{0}, Slots: []int{impl.MaxStack + 1}},
	} {
		for _, fuel := range []int{0, 9, impl.MaxFuel} {
			handedBack(t, progText(p)[:min(300, len(progText(p)))], checkReg(), p, runState(), fuel, impl.FaultCode)
		}
	}
}

// aheadOfWrong leaves something of each sort: a step, a value for the first
// resource, an event, a command, and a thing.
const aheadOfWrong = "Tick, Push 5, SetRes 0, Push 6, Emit 0, Spawn 1, Each 0 1, Next 8, "

// wrongIns asks for FaultCode at an instruction, with so many steps of its own;
// the thing that stands there has the columns 0 to 3 with every kind.
func wrongIns(t *testing.T, code string, steps int) {
	t.Helper()
	full := aheadOfWrong + code + ", End"
	p := impl.Program{Code: append(codeOf(full), codeOf("Push 1, Back")...), Slots: []int{2, 2}, Lists: [][]int{{2}, nil, {0, 1}, {0, 8}, {0, 0}, {-1}, {4, 4, 4}}}
	p.Starts = []int{len(p.Code) - 2, 0}
	leftBehind(t, code, p, runState(), 50, faulted(impl.FaultCode, 1+steps, func(d *impl.Done) {
		d.State.World.Res[0] = whole(5)
		d.State.Streams[0].New = append(d.State.Streams[0].New, whole(6))
	}))
}

// noNumbers holds numbers that are none of a list of that length.
func noNumbers(length int) []string {
	var list []string
	for _, n := range []int{-1, -2, leastInt, length, length + 1, length + 100, 1 << 32, mostInt} {
		list = append(list, strconv.Itoa(n))
	}
	return list
}

func TestNumbersThatAreNone(t *testing.T) {
	for _, c := range []struct {
		ahead, op string
		length    int
		steps     int
	}{
		{"", "Local ", 2, 0}, {"Push 1, ", "Store ", 2, 0},
		{"", "Comp ", 8, 0}, {"Push 1, ", "SetComp ", 8, 0}, {"Push 1.0, ", "SetComp ", 8, 0},
		{"", "Res ", 4, 0}, {"Push 1, ", "SetRes ", 4, 0}, {"Push yes, ", "SetRes ", 4, 0},
		{"Push 1, Push 1, ", "Op ", 10, 0}, {"Push yes, Push yes, ", "Op ", 10, 0}, {"Push 1, ", "Turn ", 7, 0}, {"Res 2, ", "Turn ", 7, 0},
		{"Push 1, ", "Pick ", 7, 0}, {"", "Call ", 2, 1}, {"", "Hear ", 4, 0}, {"Push 1, ", "Emit ", 4, 0}, {"Push yes, ", "Emit ", 4, 0},
		{"", "Spawn ", 7, 0}, {"Push 1, ", "Spawn ", 7, 0}, {"Push 1, ", "Put ", 8, 0}, {"Push yes, ", "Put ", 8, 0}, {"", "Drop ", 8, 0},
	} {
		for _, n := range noNumbers(c.length) {
			wrongIns(t, c.ahead+c.op+n, c.steps)
			// with no value where one is taken
			wrongIns(t, c.op+n, c.steps)
		}
	}
	for _, n := range noNumbers(7) {
		wrongIns(t, "Each 0 "+n, 0)
		wrongIns(t, "Each "+n+" 0", 0)
		wrongIns(t, "Each "+n+" "+n, 0)
	}
	for _, op := range []string{"Op 0", "Turn 0"} {
		wrongIns(t, "Push 1, Push 1, "+op, 0)
	}
	// so many values as there can't be
	for _, n := range []string{"-1", "-9223372036854775808", "2", "3", "4000", "9223372036854775807"} {
		wrongIns(t, "Push 1, Call 0 "+n, 1)
	}
	wrongIns(t, "Push 1, Push 1, Push 1, Call 0 3", 1)
}

func TestPlacesThatAreNone(t *testing.T) {
	// the code has 8 instructions ahead, then these, an end and a function of two
	for _, n := range noNumbers(99) {
		back := 0
		if strings.HasPrefix(n, "-") {
			back = 1
		}
		wrongIns(t, "Jump "+n, back)
		wrongIns(t, "Push no, Unless "+n, back)
		wrongIns(t, "Push 0, Loop "+n, back)
		wrongIns(t, "Next "+n, back)
		wrongIns(t, "More "+n, back)
	}
	// a run that goes on behind the last instruction
	for _, code := range []string{"Push 1", "Tick", "Push 1, Forget", "Push yes, Unless 0", "Push 1, Loop 0"} {
		p := program(0, code)
		d := ran(t, checkReg(), p, runState(), 9)
		if d.Fault != impl.FaultCode || !sameState(d.State, runState()) {
			t.Error("behind the last:", code, doneText(d))
		}
	}
	// an ICall at the last place, and a function whose first place is none
	p := impl.Program{Code: codeOf("Push 1, Back, Call 0 0"), Starts: []int{0, 2}, Slots: []int{0, 0}}
	leftBehind(t, "behind a call", p, runState(), 9, faulted(impl.FaultCode, 1))
	for _, start := range []int{-1, leastInt, 4, 5, mostInt} {
		p := impl.Program{Code: codeOf("Push 1, Back, Call 0 0, End"), Starts: []int{start, 2}, Slots: []int{0, 0}}
		leftBehind(t, "no such start", p, runState(), 9, faulted(impl.FaultCode, 1))
		leftBehind(t, "no such start, and no fuel", p, runState(), 0, faulted(impl.FaultFuel, 0))
	}
}

func TestNoInstruction(t *testing.T) {
	for _, op := range []int{0, -1, leastInt, impl.IEnd + 1, 99, 256 + impl.IEnd, 1 << 32, mostInt} {
		p := program(0, "Tick, Push 5, SetRes 0, Spawn 0, End, End", nil)
		p.Code[4] = impl.Ins{Op: op}
		leftBehind(t, "no instruction", p, runState(), 9, faulted(impl.FaultCode, 1, resBecomes(0, whole(5))))
		leftBehind(t, "no instruction, and no fuel", p, runState(), 0, faulted(impl.FaultFuel, 0))
	}
}

func TestNoValueToTake(t *testing.T) {
	for _, code := range []string{
		"Store 0", "SetComp 0", "SetRes 0", "Op 1", "Push 1, Op 1", "Op 4", "Push 0, Op 4", "Turn 1", "Pair", "Push 1.0, Pair", "Pick 2", "Back", "Forget", "Push 1, Forget, Forget",
		"Unless 99", "Loop 99", "Emit 0", "Spawn 0", "Spawn 2", "Push 1, Spawn 2", "Push 1.0, Spawn 2", "Put 0",
	} {
		wrongIns(t, code, 0)
	}
	wrongIns(t, "Call 0 1", 1)
	wrongIns(t, "Push 1, Call 0 2", 1)
}

// pushes is how a value of each kind is laid on the stack.
var pushes = []string{impl.KInt: "Push 0", impl.KReal: "Push 0.0", impl.KPair: "Res 2", impl.KBool: "Push no"}

func TestValuesOfOtherKinds(t *testing.T) {
	kinds := []int{impl.KInt, impl.KReal, impl.KPair, impl.KBool}
	for at, kind := range kinds {
		number := strconv.Itoa(at)
		for _, other := range kinds {
			if other == kind {
				continue
			}
			for _, op := range []string{"SetComp ", "SetRes ", "Emit ", "Put "} {
				wrongIns(t, pushes[other]+", "+op+number, 0)
			}
			for op := impl.OpAdd; op <= impl.OpOr; op++ {
				wrongIns(t, pushes[kind]+", "+pushes[other]+", Op "+strconv.Itoa(op), 0)
			}
		}
		if kind != impl.KBool {
			wrongIns(t, pushes[kind]+", Unless 99", 0)
		}
		if kind != impl.KInt {
			wrongIns(t, pushes[kind]+", Loop 99", 0)
			wrongIns(t, pushes[kind]+", Pick 2", 0)
		}
		if kind != impl.KReal {
			wrongIns(t, "Push 1.0, "+pushes[kind]+", Pair", 0)
			wrongIns(t, pushes[kind]+", Push 1.0, Pair", 0)
		}
	}
	// commands that are not right: a kind, a column twice, a column that is none
	for _, code := range []string{"Push 1, Push 1, Spawn 2", "Push 1.0, Push 1, Spawn 2", "Push yes, Push 1.0, Spawn 2", "Push 1, Push 1, Spawn 3", "Push 1, Push 1, Spawn 4", "Push 1, Spawn 5", "Push 1, Push 1, Push 1, Spawn 6"} {
		wrongIns(t, code, 0)
	}
}

func TestPushesOfWrongValues(t *testing.T) {
	for _, v := range wrongValues() {
		p := program(0, "Tick, Push 5, SetRes 0, Push 1, End")
		p.Code[3].V = v
		leftBehind(t, "a wrong value", p, runState(), 9, faulted(impl.FaultCode, 1, resBecomes(0, whole(5))))
	}
	// a value that no other instruction names is not looked at
	p := program(1, "Tick, Push 5, Store 0, Local 0, SetRes 0, End")
	for i := range p.Code {
		if p.Code[i].Op != impl.IPush {
			p.Code[i].V = impl.Val{Kind: 99, I: 7, X: nan}
		}
		if p.Code[i].Op == impl.ITick || p.Code[i].Op == impl.IEnd || p.Code[i].Op == impl.IPush {
			p.Code[i].A, p.Code[i].B = leastInt, mostInt
		}
	}
	leftBehind(t, "what is not named", p, runState(), 9, faulted(impl.FaultNone, 1, resBecomes(0, whole(5))))
}

func TestNoThing(t *testing.T) {
	for _, code := range []string{"Comp 0", "Push 1, SetComp 0", "Push 0, Pick 0", "Kill", "Push 1, Put 0", "Drop 0"} {
		p := program(0, code+", End", []int{0}, nil)
		leftBehind(t, "no thing at first: "+code, p, runState(), 9, faulted(impl.FaultCode, 0))
		p = program(0, "Each 0 1, "+code+", End", []int{0}, nil)
		leftBehind(t, "none so far: "+code, p, runState(), 9, faulted(impl.FaultCode, 0))
		p = program(0, "Each 0 1, Next 2, "+code+", End", []int{0}, nil)
		if d := ran(t, checkReg(), p, runState(), 9); d.Fault != impl.FaultNone {
			t.Error("the first one:", code, doneText(d))
		}
	}
	// a thing without the column
	for _, code := range []string{"Comp 4", "Comp 7", "Push 1, SetComp 4", "Push yes, SetComp 7", "Push 1, Pick 6", "Push 1, Pick 3", "Push 0, Pick 5", "Push 0, Pick 1"} {
		wrongIns(t, code, 0)
	}
	// which may be put or dropped all the same
	p := program(0, "Each 0 1, Next 2, Push 1, Put 4, Drop 7, End", []int{2}, nil)
	leftBehind(t, "put and dropped", p, runState(), 9, func(d *impl.Done) {
		d.Cmds = []impl.Cmd{cmdPut(ent(5, 2), 4, whole(1)), cmdDrop(ent(5, 2), 7)}
	})
}

// IBack in the first function, IEnd in another one.
func TestEndsInTheWrongFunction(t *testing.T) {
	wrongIns(t, "Push 1, Back", 0)
	wrongIns(t, "Back", 0)
	p := impl.Program{Code: codeOf("End, Call 0 0, End"), Starts: []int{0, 1}, Slots: []int{0, 0}}
	leftBehind(t, "IEnd in a function", p, runState(), 9, faulted(impl.FaultCode, 1))
	// the last function is not the first one when it is called again
	p = program(0, "Res 3, Unless 3, End, Push yes, SetRes 3, Call 0 0, End")
	leftBehind(t, "IEnd in a second call", p, runState(), 9, faulted(impl.FaultCode, 1, resBecomes(3, yesNo(true))))
	p = program(0, "Res 3, Unless 4, Push 7, Back, Push yes, SetRes 3, Call 0 0, SetRes 0, End")
	leftBehind(t, "IBack in a second call", p, runState(), 9, faulted(impl.FaultNone, 1, func(d *impl.Done) {
		d.State.World.Res[0], d.State.World.Res[3] = whole(7), yesNo(true)
	}))
	// behind an IBack the first one ends again
	p = impl.Program{Code: codeOf("Push 1, Back, Call 0 0, Back"), Starts: []int{0, 2}, Slots: []int{0, 0}}
	leftBehind(t, "IBack behind a call", p, runState(), 9, faulted(impl.FaultCode, 1))
}

// What was done ahead of a fault stays, of the world, the streams and the
// cursors; commands are none.
func TestWhatIsLeftWithAFault(t *testing.T) {
	ahead := "Tick, Each 0 1, Next 3, Push 9, SetComp 0, Push 5, SetRes 0, Hear 0, Push 70, Emit 0, Kill, Spawn 1, "
	for _, c := range []struct {
		code  string
		fault int
		fuel  int
	}{
		{"Forget, End", impl.FaultCode, 9}, {"Push 1, Push 0, Op 4, End", impl.FaultZero, 9}, {"Tick, End", impl.FaultFuel, 1}, {"Jump 0", impl.FaultFuel, 1},
		{strings.Repeat("Kill, ", impl.MaxCmds) + "End", impl.FaultFull, 9}, {"End", impl.FaultNone, 9},
	} {
		p := program(0, ahead+c.code, []int{0}, nil)
		leftBehind(t, c.code, p, runState(), c.fuel, faulted(c.fault, 1, func(d *impl.Done) {
			d.State.World.Tables[0].Cells[0][0] = whole(9)
			d.State.World.Res[0] = whole(5)
			d.State.Cursors[0] = 8
			d.State.Streams[0].New = []impl.Val{whole(7), whole(70)}
			if c.fault == impl.FaultNone {
				d.Cmds = []impl.Cmd{cmdKill(ent(0, 4)), cmdSpawn()}
			}
		}))
	}
}
