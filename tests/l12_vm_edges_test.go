package tests

import (
	"slices"
	"strconv"
	"strings"
	"testing"

	"loop.example/g00070/impl"
)

func faulted(fault, steps int, more ...func(d *impl.Done)) func(d *impl.Done) {
	return func(d *impl.Done) {
		d.Fault, d.Steps = fault, steps
		for _, step := range more {
			step(d)
		}
	}
}

// eachFuel asks for a run at each fuel up to one more than its steps: below
// them it has run out, with the state as it stands by then.
func eachFuel(t *testing.T, p impl.Program, s impl.State, steps int, byThen ...func(d *impl.Done)) {
	t.Helper()
	for fuel := 0; fuel <= steps+1; fuel++ {
		fault := impl.FaultFuel
		if fuel >= steps {
			fault = impl.FaultNone
		}
		leftBehind(t, "by fuel", p, s, fuel, faulted(fault, min(fuel, steps), byThen[min(fuel, steps)]))
	}
	leftBehind(t, "by the most fuel", p, s, impl.MaxFuel, faulted(impl.FaultNone, steps, byThen[steps]))
}

func TestFuelStepByStep(t *testing.T) {
	score := func(n int) func(d *impl.Done) { return resBecomes(0, whole(n)) }
	eachFuel(t, program(0, "End"), runState(), 0, nothingElse)
	eachFuel(t, program(0, "Push 1, SetRes 0, End"), runState(), 0, score(1))
	eachFuel(t, program(0, "Push 1, SetRes 0, Tick, Push 2, SetRes 0, Tick, Push 3, SetRes 0, End"), runState(), 2, score(1), score(2), score(3))
	// the round's jump back counts, ahead of the next round
	eachFuel(t, program(0, "Push 2, Loop 7, Res 0, Push 1, Op 1, SetRes 0, Jump 1, End"), runState(), 2, score(1001), score(1002), score(1002))
	// a call counts ahead of what is called
	p := impl.Program{Code: codeOf("Push 1, SetRes 0, Tick, Push 2, Back, Call 0 0, SetRes 0, Call 0 0, Forget, End"), Starts: []int{0, 5}, Slots: []int{0, 0}}
	eachFuel(t, p, runState(), 4, nothingElse, score(1), score(2), score(1), score(1))
	// commands are none but at the end
	eachFuel(t, program(0, "Spawn 0, Tick, Spawn 0, Tick, End", nil), runState(), 2, nothingElse, nothingElse, func(d *impl.Done) {
		d.Cmds = []impl.Cmd{cmdSpawn(), cmdSpawn()}
	})
	// what was sent and heard stays
	heard := func(d *impl.Done) { d.State.Cursors[0] = 8 }
	sent := func(d *impl.Done) { heard(d); d.State.Streams[0].New = []impl.Val{whole(7), whole(9)} }
	eachFuel(t, program(0, "Tick, Hear 0, Tick, Push 9, Emit 0, Tick, End"), runState(), 3, nothingElse, heard, sent, sent)
}

// The instructions that count a step where they go to a place that is not
// ahead: their own, one behind, the first. Each with the fuel for it and with
// one step fewer, where nothing of it is done.
func TestStepsOfWaysThatLeadBack(t *testing.T) {
	for _, ways := range []string{"Jump ", "Push no, Unless ", "Push 0, Loop ", "Push -3, Loop ", "Next ", "More ", "Each 0 0, Next ", "Hear 1, More "} {
		// from place 1 on stands what is led back to; place 0 leads past it
		code := "Jump 4, Push 4, SetRes 0, End, " + ways
		p := program(0, code+"1, End", []int{8})
		s := runState()
		s.Cursors[1] = 9
		leftBehind(t, code, p, s, 0, faulted(impl.FaultFuel, 0))
		leftBehind(t, code, p, s, 1, faulted(impl.FaultNone, 1, resBecomes(0, whole(4))))
		leftBehind(t, code, p, s, impl.MaxFuel, faulted(impl.FaultNone, 1, resBecomes(0, whole(4))))
		// ahead: no step
		at := len(p.Code) - 2
		p.Code[at].A = at + 1
		leftBehind(t, code, p, s, 0, faulted(impl.FaultNone, 0))
		p.Code = append(p.Code, codeOf("Tick, Push 6, SetRes 0, End")...)
		p.Code[at].A = at + 3
		leftBehind(t, code, p, s, 0, faulted(impl.FaultNone, 0, resBecomes(0, whole(6))))
		// its own place
		p.Code[at].A = at
		own := ran(t, checkReg(), p, s, 7)
		switch p.Code[at].Op {
		case impl.IUnless, impl.ILoop: // no second value is there to be taken
			leftBehind(t, code, p, s, 7, faulted(impl.FaultCode, 1))
			leftBehind(t, code, p, s, 1, faulted(impl.FaultCode, 1))
			leftBehind(t, code, p, s, 0, faulted(impl.FaultFuel, 0))
		default:
			if own.Fault != impl.FaultFuel || own.Steps != 7 {
				t.Error("its own place:", code, doneText(own))
			}
		}
		// a place below 0 is not ahead: the step counts, and there is none
		for _, to := range []int{-1, -2, leastInt} {
			p.Code[at].A = to
			leftBehind(t, code, p, s, 0, faulted(impl.FaultFuel, 0))
			leftBehind(t, code, p, s, 1, faulted(impl.FaultCode, 1))
			leftBehind(t, code, p, s, 9, faulted(impl.FaultCode, 1))
		}
		// one behind the last is ahead: no step, and there is none
		for _, to := range []int{len(p.Code), len(p.Code) + 1, mostInt} {
			p.Code[at].A = to
			leftBehind(t, code, p, s, 0, faulted(impl.FaultCode, 0))
			leftBehind(t, code, p, s, 9, faulted(impl.FaultCode, 0))
		}
	}
}

// Where they do not go to their A, it may be any number, and counts nothing.
func TestWaysThatAreNotGone(t *testing.T) {
	for _, to := range []int{leastInt, -1, 0, 1, 2, 3, 4, 5, 99, mostInt} {
		for _, c := range []struct {
			code  string
			slots int
			then  func(d *impl.Done)
		}{
			{"Tick, Push yes, Unless ", 0, nothingElse},
			{"Tick, Push 1, Loop ", 0, nothingElse},
			{"Tick, Each 0 1, Next ", 0, nothingElse},
			{"Tick, Hear 0, More ", 1, func(d *impl.Done) { d.State.Cursors[0] = 8 }},
		} {
			p := program(c.slots, c.code+strconv.Itoa(to)+", Push 4, SetRes 0, End", []int{0}, nil)
			leftBehind(t, c.code, p, runState(), 1, faulted(impl.FaultNone, 1, resBecomes(0, whole(4)), c.then))
		}
	}
}

// An instruction that is at fault by its value is so ahead of any step.
func TestFaultsAheadOfSteps(t *testing.T) {
	for _, code := range []string{"Unless 0", "Push 1, Unless 0", "Push 0.0, Unless 0", "Res 2, Unless 0", "Loop 0", "Push no, Loop 0", "Push 0.0, Loop 0", "Res 2, Loop 0"} {
		leftBehind(t, code, program(0, code+", End"), runState(), 0, faulted(impl.FaultCode, 0))
	}
	// a call and a jump count ahead of all else
	for _, code := range []string{"Call 5 0", "Call -1 0", "Call 0 -1", "Call 0 1", "Call 0 99", "Jump -1"} {
		p := program(0, code+", End")
		leftBehind(t, code, p, runState(), 0, faulted(impl.FaultFuel, 0))
		leftBehind(t, code, p, runState(), 1, faulted(impl.FaultCode, 1))
	}
}

func TestRunsOfTheMostSteps(t *testing.T) {
	rounds := func(n int) impl.Program {
		return program(0, "Push "+strconv.Itoa(n)+", Loop 7, Res 0, Push 1, Op 1, SetRes 0, Jump 1, End")
	}
	most := impl.MaxFuel
	leftBehind(t, "most", rounds(most), runState(), most, faulted(impl.FaultNone, most, resBecomes(0, whole(1000+most))))
	leftBehind(t, "one fewer", rounds(most), runState(), most-1, faulted(impl.FaultFuel, most-1, resBecomes(0, whole(1000+most))))
	leftBehind(t, "one more round", rounds(most+1), runState(), most, faulted(impl.FaultFuel, most, resBecomes(0, whole(1000+most+1))))
	leftBehind(t, "for ever", program(0, "Jump 0"), runState(), most, faulted(impl.FaultFuel, most))
	ticks := program(0, strings.Repeat("Tick, ", most)+"End")
	leftBehind(t, "ticks", ticks, runState(), most, faulted(impl.FaultNone, most))
	leftBehind(t, "ticks", ticks, runState(), most-1, faulted(impl.FaultFuel, most-1))
	leftBehind(t, "ticks", program(0, strings.Repeat("Tick, ", most+1)+"End"), runState(), most, faulted(impl.FaultFuel, most))
	// instructions that count none, as many as there may be
	leftBehind(t, "no ticks", program(0, strings.Repeat("Push 1, Forget, ", impl.MaxCode/2-1)+"Spawn 0, End", nil), runState(), 0, faulted(impl.FaultNone, 0, func(d *impl.Done) {
		d.Cmds = []impl.Cmd{cmdSpawn()}
	}))
	// all of them, in each of many rounds
	long := program(0, "Push 150, Loop 11999, "+strings.Repeat("Push 1, Forget, ", 5998)+"Jump 1, End")
	if len(long.Code) != impl.MaxCode {
		t.Fatal("length", len(long.Code))
	}
	if d := impl.Machine(checkReg(), long, runState(), most); d.Fault != impl.FaultNone || d.Steps != 150 {
		t.Error("long rounds", doneText(d))
	}
}

func TestMostCode(t *testing.T) {
	for n, fault := range map[int]int{impl.MaxCode - 1: impl.FaultNone, impl.MaxCode: impl.FaultNone, impl.MaxCode + 1: impl.FaultCode, 2 * impl.MaxCode: impl.FaultCode} {
		p := program(0, "Tick, Push 4, SetRes 0, End")
		p.Code = append(p.Code, slices.Repeat([]impl.Ins{{Op: 99}}, n-len(p.Code))...)
		leftBehind(t, "code", p, runState(), 9, func(d *impl.Done) {
			d.Fault = fault
			if fault == impl.FaultNone {
				d.Steps = 1
				d.State.World.Res[0] = whole(4)
			}
		})
		// the last place is one that can be gone to
		p.Code[len(p.Code)-1] = impl.Ins{Op: impl.IEnd}
		p.Code[0] = impl.Ins{Op: impl.IJump, A: n - 1}
		leftBehind(t, "the last place", p, runState(), 0, faulted(fault, 0))
	}
}

func TestPicksOfAnyNumber(t *testing.T) {
	// Hp, Mp and Hp again, of the thing whose Hp is 30 and Mp is 3
	list := []int{0, 4, 0}
	vals := []impl.Val{whole(30), whole(3), whole(30)}
	for _, n := range append(someInts, 4, 5, 6, -4, -5, -6, 99, -99) {
		for length := 1; length <= 3; length++ {
			left := n % length
			if left < 0 {
				left += length
			}
			p := program(0, "Each 0 1, Next 2, Next 3, Push "+strconv.Itoa(n)+", Pick 2, SetRes 0, End", []int{4}, nil, list[:length])
			leftBehind(t, "pick", p, runState(), 0, resBecomes(0, vals[left]))
		}
	}
	// a list with one column twice, and with one that the thing has not, or that is none
	for n, want := range map[int]int{0: 0, 1: 0, 2: 5, 3: 5, 4: 5, -1: 5, -5: 0, -4: 0} {
		p := program(0, "Each 0 1, Next 2, Push "+strconv.Itoa(n)+", Pick 2, SetRes 0, End", []int{4}, nil, []int{0, 0, 3, 8, -1})
		leftBehind(t, "pick", p, runState(), 0, func(d *impl.Done) {
			if d.Fault = want; want == impl.FaultNone {
				d.State.World.Res[0] = whole(10)
			}
		})
	}
}

// What an IEach has found stays, whatever is done meanwhile; behind its end
// there is no thing, and a new IEach has none at first.
func TestThingsToCome(t *testing.T) {
	lists := [][]int{{4}, nil, {0}}
	for _, c := range []struct {
		code string
		then func(d *impl.Done)
	}{
		{"Each 0 1, Next 3, Jump 1, Comp 0, End", faulted(impl.FaultCode, 2)},
		{"Each 0 1, Next 3, Jump 1, Kill, End", faulted(impl.FaultCode, 2)},
		{"Each 0 1, Next 3, Jump 1, Drop 0, End", faulted(impl.FaultCode, 2)},
		{"Each 0 1, Next 3, Jump 1, Push 1, Put 0, End", faulted(impl.FaultCode, 2)},
		{"Each 0 1, Next 3, Jump 1, Push 1, SetComp 0, End", faulted(impl.FaultCode, 2)},
		{"Each 0 1, Next 3, Jump 1, Push 1, Pick 0, End", faulted(impl.FaultCode, 2)},
		// behind the end INext leads on again and again
		{"Each 0 1, Next 3, Jump 1, Next 5, Tick, Next 7, Tick, End", faulted(impl.FaultNone, 2)},
		// IEach takes the thing away
		{"Each 0 1, Next 2, Comp 0, SetRes 0, Each 0 1, Comp 0, End", faulted(impl.FaultCode, 0, resBecomes(0, whole(10)))},
		{"Each 0 1, Next 2, Each 2 1, Kill, End", faulted(impl.FaultCode, 0)},
		// and begins anew
		{"Each 0 1, Next 2, Each 0 1, Next 4, Comp 0, SetRes 0, End", faulted(impl.FaultNone, 0, resBecomes(0, whole(10)))},
		// a jump out of it keeps the thing
		{"Each 0 1, Next 2, Jump 4, End, Comp 0, SetRes 0, End", faulted(impl.FaultNone, 0, resBecomes(0, whole(10)))},
		// an IHear does not touch it
		{"Each 0 1, Next 2, Hear 1, Comp 0, SetRes 0, End", faulted(impl.FaultNone, 0, func(d *impl.Done) { d.State.World.Res[0], d.State.Cursors[1] = whole(10), 9 })},
		// without any IEach
		{"Next 1, End", faulted(impl.FaultNone, 0)},
		{"Comp 0, End", faulted(impl.FaultCode, 0)},
	} {
		leftBehind(t, c.code, program(0, c.code, lists...), runState(), 50, c.then)
	}
	// lists of MaxDecls numbers, and of one more: Match tells nothing then
	twelve := slices.Repeat([]int{0}, impl.MaxDecls)
	for _, lists := range [][][]int{{twelve, nil}, {{0}, slices.Repeat([]int{9}, impl.MaxDecls)}} {
		leftBehind(t, "most numbers", program(0, "Each 0 1, Next 4, Tick, Jump 1, End", lists...), runState(), 50, faulted(impl.FaultNone, 8))
	}
	for _, lists := range [][][]int{{append(twelve, 0), nil}, {{0}, slices.Repeat([]int{9}, impl.MaxDecls+1)}} {
		leftBehind(t, "too many numbers", program(0, "Each 0 1, Next 4, Tick, Jump 1, End", lists...), runState(), 50, faulted(impl.FaultNone, 0))
	}
}

func TestThingsOfAFullWorld(t *testing.T) {
	s := impl.State{World: crowd(impl.MaxEnts), Streams: []impl.Stream{{}}, Cursors: []int{0}}
	p := program(0, "Each 0 1, Next 6, Comp 0, Push 1, Op 1, Jump 7, End, SetComp 0, Jump 1", []int{0}, nil)
	d := impl.Machine(worldReg(), p, s, impl.MaxFuel)
	if d.Fault != impl.FaultNone || d.Steps != impl.MaxEnts || len(d.State.World.Tables) != 1 {
		t.Fatal("fault", d.Fault, d.Steps)
	}
	for i, v := range d.State.World.Tables[0].Cells[0] {
		if v != whole(i+1) {
			t.Fatal("thing", i, v)
		}
	}
}

// An IHear with cursors about every number of its stream.
func TestCursorsOfHearing(t *testing.T) {
	for _, q := range []impl.Stream{countedFrom(5, 2, 1), countedFrom(0, 0, 4), countedFrom(3, 4, 0), countedFrom(impl.MaxFirst, 3, 3), countedFrom(7, 0, 0), countedFrom(11, impl.MaxEvents, impl.MaxEvents)} {
		for _, cursor := range someCursors(q) {
			s := runState()
			s.Streams[0], s.Cursors[0] = q, cursor
			list, behind, _ := plainUnread(q, cursor)
			sum := 1000
			for _, v := range list {
				sum += v.I
			}
			p := program(1, "Hear 0, More 7 0, Res 0, Local 0, Op 1, SetRes 0, Jump 1, End")
			leftBehind(t, "heard", p, s, impl.MaxFuel, faulted(impl.FaultNone, len(list), func(d *impl.Done) {
				d.State.World.Res[0] = whole(sum)
				d.State.Cursors[0] = behind
			}))
		}
	}
}

// IMore's B is looked at only where an event is to come.
func TestMoreWithoutALocal(t *testing.T) {
	for _, local := range []string{"-1", "1", "2", "4000", "-9223372036854775808", "9223372036854775807"} {
		leftBehind(t, "none to come", program(1, "More 1 "+local+", End"), runState(), 0, nothingElse)
		leftBehind(t, "none left", program(1, "Hear 3, More 3 0, Tick, More 5 "+local+", Tick, Push 4, SetRes 0, End"), runState(), 1, faulted(impl.FaultNone, 1, func(d *impl.Done) {
			d.State.World.Res[0], d.State.Cursors[3] = whole(4), 1
		}))
		leftBehind(t, "one to come", program(1, "Hear 3, More 2 "+local+", End"), runState(), 0, faulted(impl.FaultCode, 0, func(d *impl.Done) { d.State.Cursors[3] = 1 }))
	}
}

func TestFullStreams(t *testing.T) {
	for at, kind := range []int{impl.KInt, impl.KReal, impl.KPair, impl.KBool} {
		for _, have := range []int{0, impl.MaxEvents - 2, impl.MaxEvents - 1, impl.MaxEvents} {
			s := runState()
			s.Streams[at] = stream(3, filled(kind, impl.MaxEvents), filled(kind, have))
			v := s.World.Res[at]
			text := "Tick, Res " + strconv.Itoa(at) + ", Emit " + strconv.Itoa(at) + ", "
			p := program(0, strings.Repeat(text, 2)+"Spawn 0, End", nil)
			fit := min(impl.MaxEvents-have, 2)
			leftBehind(t, "full", p, s, 9, func(d *impl.Done) {
				d.Steps = min(fit+1, 2)
				for range fit {
					d.State.Streams[at].New = append(d.State.Streams[at].New, v)
				}
				if d.Fault = impl.FaultFull; fit == 2 {
					d.Fault, d.Cmds = impl.FaultNone, []impl.Cmd{cmdSpawn()}
				}
			})
			// a value of another kind is FaultCode, also of a full one
			other := strconv.Itoa((at + 1) % 4)
			leftBehind(t, "another kind", program(0, "Res "+other+", Emit "+strconv.Itoa(at)+", End"), s, 9, faulted(impl.FaultCode, 0))
			leftBehind(t, "no value", program(0, "Emit "+strconv.Itoa(at)+", End"), s, 9, faulted(impl.FaultCode, 0))
		}
	}
	// as many as there may be, in one run
	p := program(0, "Push 201, Loop 6, Push 3, Emit 1, Jump 1, End, End")
	p.Code[2].V = float(3)
	leftBehind(t, "all", p, runState(), impl.MaxFuel, faulted(impl.FaultFull, impl.MaxEvents, func(d *impl.Done) {
		d.State.Streams[1].New = slices.Repeat([]impl.Val{float(3)}, impl.MaxEvents)
	}))
}

func TestMostCommandsOfARun(t *testing.T) {
	lists := [][]int{{4}, nil, {0, 1}}
	for _, c := range []struct {
		code string
		cmd  impl.Cmd
	}{
		{"Spawn 1, ", cmdSpawn()},
		{"Push 1, Push 2.5, Spawn 2, ", cmdSpawn(cell(0, whole(1)), cell(1, float(2.5)))},
		{"Kill, ", cmdKill(ent(0, 4))},
		{"Push 1, Put 4, ", cmdPut(ent(0, 4), 4, whole(1))},
		{"Drop 2, ", cmdDrop(ent(0, 4), 2)},
	} {
		for n := impl.MaxCmds - 1; n <= impl.MaxCmds+1; n++ {
			p := program(0, "Each 0 1, Next 2, "+strings.Repeat(c.code, n)+"Tick, End", lists...)
			then := faulted(impl.FaultNone, 1, func(d *impl.Done) { d.Cmds = slices.Repeat([]impl.Cmd{c.cmd}, n) })
			if n > impl.MaxCmds {
				then = faulted(impl.FaultFull, 0)
			}
			leftBehind(t, c.code, p, runState(), 9, then)
		}
	}
	// one that can't be written down is FaultCode, also where there is no room
	full := "Each 0 1, Next 2, " + strings.Repeat("Kill, ", impl.MaxCmds)
	for _, code := range []string{"Push 1, Spawn 0, Push 1, Put 3, End", "Push 1, Put 8, End", "Put 0, End", "Drop 8, End", "Drop -1, End", "Spawn 0, End", "Spawn 9, End", "Push yes, Spawn 0, End", "Push 1, Push 1, Spawn 2, End", "Push 1, Push 2, Spawn 3, End", "Each 0 1, Kill, End", "Each 0 1, Push 1, Put 0, End"} {
		p := program(0, full+code, [][]int{{4}, nil, {0, 1}, {0, 0}}...)
		want := impl.FaultCode
		if strings.HasPrefix(code, "Push 1, Spawn 0, ") {
			want = impl.FaultFull
		}
		leftBehind(t, code, p, runState(), 9, faulted(want, 0))
	}
}

func TestZeroes(t *testing.T) {
	for _, op := range []int{impl.OpDiv, impl.OpMod} {
		sign := strconv.Itoa(op)
		for _, n := range []string{"0", "1", "-7", "9223372036854775807", "-9223372036854775808"} {
			leftBehind(t, "by 0", program(0, "Tick, Push 4, SetRes 0, Spawn 0, Push "+n+", Push 0, Op "+sign+", End", nil), runState(), 9, faulted(impl.FaultZero, 1, resBecomes(0, whole(4))))
		}
	}
	leftBehind(t, "the least number by -1", program(0, "Push -9223372036854775808, Push -1, Op 4, SetRes 0, End"), runState(), 9, resBecomes(0, whole(leastInt)))
	leftBehind(t, "what is left of it", program(0, "Push -9223372036854775808, Push -1, Op 5, SetRes 0, End"), runState(), 9, resBecomes(0, whole(0)))
	// a real number may be divided by 0, and no op but these two asks
	leftBehind(t, "reals", program(0, "Push 1.0, Push 0.0, Op 4, SetRes 1, End"), runState(), 9, resBecomes(1, float(inf)))
	leftBehind(t, "less", program(0, "Push 1, Push 0, Op 2, SetRes 0, End"), runState(), 9, resBecomes(0, whole(1)))
	// of another kind it is FaultCode
	leftBehind(t, "kinds", program(0, "Push 1.0, Push 0, Op 4, SetRes 1, End"), runState(), 9, faulted(impl.FaultCode, 0))
	leftBehind(t, "remainder of reals", program(0, "Push 1.0, Push 0.0, Op 5, SetRes 1, End"), runState(), 9, faulted(impl.FaultCode, 0))
	leftBehind(t, "one value", program(0, "Push 0, Op 4, End"), runState(), 9, faulted(impl.FaultCode, 0))
}
