package tests

import (
	"strconv"
	"strings"
	"testing"

	"loop.example/g00070/impl"
)

// Each instruction that lays a value on the stack, at MaxStack values and at
// one more.
func TestMostValues(t *testing.T) {
	for _, c := range []struct {
		code  string
		taken int // from the stack ahead of the one that is laid
		steps int
	}{
		{"Push 7", 0, 0}, {"Local 0", 0, 0}, {"Res 0", 0, 0}, {"Comp 0", 0, 0},
		{"Pick 0", 1, 0}, {"Op 1", 2, 0}, {"Turn 1", 1, 0}, {"Loop 0", 1, 0}, {"Call 0 1", 1, 1}, {"Call 0 0", 0, 1},
	} {
		for have := impl.MaxStack - 1; have <= impl.MaxStack; have++ {
			code := "Push 7, Back, Push 7, Store 0, Each 0 1, Next 6, " + strings.Repeat("Push 5, ", have) + c.code + ", Forget, Push 4, SetRes 0, End"
			p := impl.Program{Code: codeOf(code), Starts: []int{0, 2}, Slots: []int{1, 1}, Lists: [][]int{{0}, nil}}
			then := faulted(impl.FaultCode, c.steps)
			if have-c.taken+1 <= impl.MaxStack {
				then = faulted(impl.FaultNone, c.steps, resBecomes(0, whole(4)))
			}
			leftBehind(t, c.code, p, runState(), 9, then)
		}
	}
	full := strings.Repeat("Push 5, ", impl.MaxStack)
	leftBehind(t, "full", program(0, full+"SetRes 0, End"), runState(), 0, resBecomes(0, whole(5)))
	leftBehind(t, "one more", program(0, full+"Push 1, SetRes 0, End"), runState(), 0, faulted(impl.FaultCode, 0))
	leftBehind(t, "one less, and one more", program(0, full+"Forget, Push 1, SetRes 0, End"), runState(), 0, resBecomes(0, whole(1)))
	leftBehind(t, "a pair", program(0, strings.Repeat("Push 5.0, ", impl.MaxStack)+"Pair, SetRes 2, Forget, End"), runState(), 0, resBecomes(2, pair(5, 5)))
	leftBehind(t, "all taken, and one more", program(0, full+strings.Repeat("Forget, ", impl.MaxStack)+"Forget, End"), runState(), 0, faulted(impl.FaultCode, 0))
	leftBehind(t, "all taken", program(0, full+strings.Repeat("Forget, ", impl.MaxStack)+"End"), runState(), 0, nothingElse)
}

// callsDown is a program whose first function opens so many more, and comes
// back from all of them with their number.
func callsDown(calls, slots int) impl.Program {
	return impl.Program{
		Code:   codeOf("Local 0, Push 1, Op 6, Unless 6, Push 1, Back, Local 0, Push 1, Op 2, Call 0 1, Push 1, Op 1, Back, Push " + strconv.Itoa(calls-1) + ", Call 0 1, SetRes 0, End"),
		Starts: []int{0, 13}, Slots: []int{slots, 0},
	}
}

func TestMostFrames(t *testing.T) {
	most := impl.MaxFrames - 1 // beside the first function
	for _, slots := range []int{1, 3, impl.MaxStack} {
		leftBehind(t, "most", callsDown(most, slots), runState(), impl.MaxFuel, faulted(impl.FaultNone, most, resBecomes(0, whole(most))))
		leftBehind(t, "one more", callsDown(most+1, slots), runState(), impl.MaxFuel, faulted(impl.FaultCode, most+1))
		leftBehind(t, "one more, and no fuel for it", callsDown(most+1, slots), runState(), most, faulted(impl.FaultFuel, most))
	}
	// those that are over do not count
	p := impl.Program{Code: codeOf("Push 1, Back, Push 666, Loop 9, Call 0 0, Forget, Call 0 0, Forget, Jump 3, End"), Starts: []int{0, 2}, Slots: []int{impl.MaxStack, 0}}
	leftBehind(t, "one behind the other", p, runState(), impl.MaxFuel, faulted(impl.FaultNone, 3*666))
	// the last function calls itself: each of these is open
	p = program(0, "Call 0 0, End")
	leftBehind(t, "itself", p, runState(), impl.MaxFuel, faulted(impl.FaultCode, impl.MaxFrames))
	leftBehind(t, "itself", p, runState(), impl.MaxFrames-1, faulted(impl.FaultFuel, impl.MaxFrames-1))
}

func TestMostLocals(t *testing.T) {
	for _, slots := range []int{0, 1, 2, impl.MaxStack - 1, impl.MaxStack, impl.MaxStack + 1, mostInt, -1, -2, leastInt} {
		right := slots >= 0 && slots <= impl.MaxStack
		then := func(steps int) func(d *impl.Done) {
			if right {
				return faulted(impl.FaultNone, steps, resBecomes(0, whole(4)))
			}
			return faulted(impl.FaultCode, steps)
		}
		// the first function, and one that is called
		leftBehind(t, "first", program(slots, "Push 4, SetRes 0, End"), runState(), 9, then(0))
		p := impl.Program{Code: codeOf("Push 4, Back, Call 0 0, SetRes 0, End"), Starts: []int{0, 2}, Slots: []int{slots, 0}}
		leftBehind(t, "called", p, runState(), 9, then(1))
		leftBehind(t, "called without fuel", p, runState(), 0, faulted(impl.FaultFuel, 0))
		// a function that is not begun may have any number of them
		p.Code = codeOf("Push 4, Back, Push 4, SetRes 0, End")
		leftBehind(t, "not called", p, runState(), 9, resBecomes(0, whole(4)))
		if !right {
			continue
		}
		for _, at := range []int{0, 1, slots - 1, slots, slots + 1, -1, mostInt, leastInt} {
			p := program(slots, "Push 4, Store "+strconv.Itoa(at)+", Local "+strconv.Itoa(at)+", SetRes 0, End")
			if at >= 0 && at < slots {
				leftBehind(t, "a local", p, runState(), 9, resBecomes(0, whole(4)))
			} else {
				leftBehind(t, "no local", p, runState(), 9, faulted(impl.FaultCode, 0))
			}
		}
	}
}

// A function takes as many values as it has locals, or fewer; not more.
func TestMostArguments(t *testing.T) {
	for _, slots := range []int{0, 1, 2, 5, impl.MaxStack} {
		for _, args := range []int{0, 1, 2, 4, 5, 6, slots - 1, slots, slots + 1} {
			if args < 0 || args > impl.MaxStack {
				continue
			}
			code := "Push 0, Back, " + strings.Repeat("Push 3, ", args) + "Call 0 " + strconv.Itoa(args) + ", SetRes 0, End"
			p := impl.Program{Code: codeOf(code), Starts: []int{0, 2}, Slots: []int{slots, 0}}
			for i := range args {
				p.Code[2+i].V = whole(i + 10)
			}
			if args > slots {
				leftBehind(t, "too many", p, runState(), 9, faulted(impl.FaultCode, 1))
				continue
			}
			if args > 0 { // the last one is the last local that has a value
				p.Code[0] = impl.Ins{Op: impl.ILocal, A: args - 1}
				leftBehind(t, "the last one", p, runState(), 9, faulted(impl.FaultNone, 1, resBecomes(0, whole(args+9))))
				p.Code[0] = impl.Ins{Op: impl.ILocal}
				leftBehind(t, "the first one", p, runState(), 9, faulted(impl.FaultNone, 1, resBecomes(0, whole(10))))
			} else {
				leftBehind(t, "none", p, runState(), 9, faulted(impl.FaultNone, 1, resBecomes(0, whole(0))))
			}
			// behind it they are the zero value, which is laid on no stack
			p.Code[0] = impl.Ins{Op: impl.ILocal, A: args}
			leftBehind(t, "the one behind", p, runState(), 9, faulted(impl.FaultCode, 1))
		}
	}
	// more values than there are
	p := impl.Program{Code: codeOf("Push 0, Back, Push 1, Call 0 2, SetRes 0, End"), Starts: []int{0, 2}, Slots: []int{3, 0}}
	leftBehind(t, "too few values", p, runState(), 9, faulted(impl.FaultCode, 1))
}

// Locals are the zero value at first, and again at a second call.
func TestLocalsAtFirst(t *testing.T) {
	for _, code := range []string{"Local 0, End", "Local 0, Forget, End", "Push 1, Store 1, Local 0, End"} {
		leftBehind(t, code, program(2, code), runState(), 9, faulted(impl.FaultCode, 0))
	}
	// set in the first call, asked for in the second
	p := impl.Program{
		Code:   codeOf("Local 0, Unless 5, Push 7, Store 1, Jump 5, Local 1, Back, Push yes, Call 0 1, SetRes 0, Push no, Call 0 1, SetRes 0, End"),
		Starts: []int{0, 7}, Slots: []int{2, 0},
	}
	leftBehind(t, "second call", p, runState(), 9, faulted(impl.FaultCode, 2, resBecomes(0, whole(7))))
	// the first function's own
	p = impl.Program{Code: codeOf("Push 7, Store 0, Push 0, Back, Call 0 0, Local 0, End"), Starts: []int{0, 4}, Slots: []int{1, 1}}
	leftBehind(t, "not the caller's", p, runState(), 9, faulted(impl.FaultCode, 1))
}

// The last function is begun, with its own Start and its own locals.
func TestTheLastFunctionIsBegun(t *testing.T) {
	code := codeOf("Push 1, SetRes 0, End, Push 2, Store 2, Local 2, SetRes 0, End, Push 3, SetRes 0, End")
	for _, c := range []struct {
		starts []int
		slots  []int
		want   int
		fault  int
	}{
		{[]int{0}, []int{0}, 1, 0}, {[]int{3}, []int{3}, 2, 0}, {[]int{8}, []int{0}, 3, 0},
		{[]int{0, 3}, []int{0, 3}, 2, 0}, {[]int{3, 0}, []int{3, 0}, 1, 0}, {[]int{3, 0, 8}, []int{0, 0, 0}, 3, 0},
		{[]int{0, 3}, []int{3, 2}, 0, impl.FaultCode}, {[]int{0, 3}, []int{3, 0}, 0, impl.FaultCode},
		{[]int{0, -1}, []int{0, 0}, 0, impl.FaultCode}, {[]int{0, 11}, []int{0, 0}, 0, impl.FaultCode}, {[]int{0, mostInt}, []int{0, 0}, 0, impl.FaultCode}, {[]int{0, leastInt}, []int{0, 0}, 0, impl.FaultCode},
		// what is not begun is not looked at
		{[]int{-1, 99, 0}, []int{-1, 5000, 0}, 1, 0},
	} {
		p := impl.Program{Code: code, Starts: c.starts, Slots: c.slots}
		leftBehind(t, "begun", p, runState(), 0, func(d *impl.Done) {
			if d.Fault = c.fault; c.fault == 0 {
				d.State.World.Res[0] = whole(c.want)
			}
		})
	}
}
