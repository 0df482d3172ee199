package tests

import (
	"slices"
	"testing"

	"loop.example/g00070/impl"
)

// reading is a system of a tree that may run, with a state that it finds.
type reading struct {
	r    impl.Reg
	x    impl.Tree
	name string
	s    impl.State
	p    impl.Program
}

func newReading(t *testing.T, r impl.Reg, x impl.Tree, name string, s impl.State) reading {
	t.Helper()
	p, ok := impl.Compile(r, x, name)
	if !ok || !impl.StateOk(r, s) {
		t.Fatal("no system that may run, or no right state:", name)
	}
	return reading{r, x, name, s, p}
}

func (c reading) text() string {
	text, _ := impl.Print(c.x)
	return text
}

// at is what Mean leaves with a fuel. It asks for all that holds of every run:
// the arguments stay, the machine leaves the same, the state is right, and
// commands are right, and none with a fault.
func (c reading) at(t *testing.T, fuel int) impl.Done {
	t.Helper()
	state, tree := cloneState(c.s), cloneTree(c.x)
	d := impl.Mean(c.r, c.x, c.name, c.s, fuel)
	if !sameState(c.s, state) || !sameTree(c.x, tree) {
		t.Fatalf("an argument was written into, with the fuel %d:\n%s", fuel, c.text())
	}
	if m := impl.Machine(c.r, c.p, c.s, fuel); !sameDone(d, m) {
		t.Fatalf("not what the machine leaves with the fuel %d:\n%shave %s\nmachine %s", fuel, c.text(), doneText(d), doneText(m))
	}
	if d.Steps < 0 || d.Steps > fuel || d.Fault == impl.FaultFuel && d.Steps != fuel || d.Fault == impl.FaultBad || d.Fault == impl.FaultCode {
		t.Fatalf("fuel %d:\n%s%s", fuel, c.text(), doneText(d))
	}
	if d.Fault != impl.FaultNone && len(d.Cmds) > 0 || len(d.Cmds) > impl.MaxCmds {
		t.Fatalf("commands with the fuel %d:\n%s%s", fuel, c.text(), doneText(d))
	}
	return d
}

// atFuels asks for what a run is by its fuel: with fewer than its steps it
// runs out, with any more it is the same. It answers the one with the most.
func (c reading) atFuels(t *testing.T, fuels []int) impl.Done {
	t.Helper()
	d := c.at(t, impl.MaxFuel)
	if !impl.StateOk(c.r, d.State) {
		t.Fatalf("a state that is not right:\n%s%s", c.text(), doneText(d))
	}
	for _, fuel := range fuels {
		if fuel < 0 || fuel > impl.MaxFuel {
			continue
		}
		q := c.at(t, fuel)
		if fuel >= d.Steps && !sameDone(q, d) {
			t.Fatalf("it has %d steps, and is another one with the fuel %d:\n%s%s\n%s", d.Steps, fuel, c.text(), doneText(d), doneText(q))
		}
		if fuel < d.Steps && (q.Fault != impl.FaultFuel || q.Steps != fuel) {
			t.Fatalf("it has %d steps, and does not run out with the fuel %d:\n%s%s", d.Steps, fuel, c.text(), doneText(q))
		}
	}
	return d
}

// atEachFuel is for every fuel from 0 to one more than the steps.
func (c reading) atEachFuel(t *testing.T) impl.Done {
	t.Helper()
	steps := impl.Mean(c.r, c.x, c.name, c.s, impl.MaxFuel).Steps
	return c.atFuels(t, upTo(steps+2))
}

// someFuels holds those about the ends and the middle of so many steps.
func someFuels(steps int) []int {
	return []int{0, 1, 2, 3, 5, 9, steps / 3, steps / 2, steps - 3, steps - 2, steps - 1, steps, steps + 1}
}

// byTheTests holds Mean against the meaning that the tests have of their own.
func (c reading) byTheTests(t *testing.T, fuels []int) {
	t.Helper()
	a := newAudit(c.r, c.x)
	for _, fuel := range append(fuels, impl.MaxFuel) {
		if fuel < 0 || fuel > impl.MaxFuel {
			continue
		}
		d, want := impl.Mean(c.r, c.x, c.name, c.s, fuel), meant(a, impl.TopOf(c.x, c.name), c.s, fuel)
		if !sameDone(d, want) {
			t.Fatalf("fuel %d of %s:\n%shave %s\nwant %s", fuel, c.name, c.text(), doneText(d), doneText(want))
		}
	}
}

// meanCase is a text of checkReg, and what its system s leaves of runState.
type meanCase struct {
	text  string
	steps int
	fault int
	then  func(d *impl.Done)
}

func allMean(t *testing.T, list []meanCase) {
	t.Helper()
	for _, c := range list {
		meansOn(t, c.text, runState(), c.steps, c.fault, c.then)
	}
}

// meansOn asks for what a text's system s leaves of a state, told by hand: then
// writes down what is another one. Other states are gone through by the way.
func meansOn(t *testing.T, text string, s impl.State, steps, fault int, then func(d *impl.Done)) {
	t.Helper()
	x := checked(t, text)
	want := impl.Done{State: cloneState(s), Fault: fault, Steps: steps}
	then(&want)
	c := newReading(t, checkReg(), x, "s", s)
	if d := c.atEachFuel(t); !sameDone(d, want) {
		t.Errorf("%s:\nhave %s\nwant %s", text, doneText(d), doneText(want))
	}
	c.byTheTests(t, someFuels(steps))
	c.s = fullState()
	c.atFuels(t, someFuels(steps))
}

// byHand asks for a run at each fuel, the state as it stands by then: byThen
// has what is another one for each number of steps.
func byHand(t *testing.T, text string, s impl.State, fault int, byThen ...func(d *impl.Done)) {
	t.Helper()
	steps := len(byThen) - 1
	c := newReading(t, checkReg(), checked(t, text), "s", s)
	for _, fuel := range append(upTo(steps+2), impl.MaxFuel) {
		want := impl.Done{State: cloneState(s), Fault: impl.FaultFuel, Steps: min(fuel, steps)}
		if fuel >= steps {
			want.Fault = fault
		}
		byThen[min(fuel, steps)](&want)
		if d := c.at(t, fuel); !sameDone(d, want) {
			t.Errorf("fuel %d of %s:\nhave %s\nwant %s", fuel, text, doneText(d), doneText(want))
		}
	}
}

// scored writes down another value of the first resource.
func scored(n int) func(d *impl.Done) { return resBecomes(0, whole(n)) }

// both writes down several things.
func both(list ...func(d *impl.Done)) func(d *impl.Done) {
	return func(d *impl.Done) {
		for _, one := range list {
			one(d)
		}
	}
}

// cellBecomes writes down another value in a table.
func cellBecomes(at, col, row int, v impl.Val) func(d *impl.Done) {
	return func(d *impl.Done) { d.State.World.Tables[at].Cells[col][row] = v }
}

// cursorBecomes writes down another cursor.
func cursorBecomes(at, n int) func(d *impl.Done) {
	return func(d *impl.Done) { d.State.Cursors[at] = n }
}

// sends writes down events that are new.
func sends(at int, list ...impl.Val) func(d *impl.Done) {
	return func(d *impl.Done) {
		d.State.Streams[at].New = slices.Concat(d.State.Streams[at].New, list)
	}
}

// writesDown writes down commands.
func writesDown(list ...impl.Cmd) func(d *impl.Done) {
	return func(d *impl.Done) { d.Cmds = append(d.Cmds, list...) }
}

// refusedMean asks that s is handed back with FaultBad.
func refusedMean(t *testing.T, what string, r impl.Reg, x impl.Tree, name string, s impl.State, fuel int) {
	t.Helper()
	state, tree := cloneState(s), cloneTree(x)
	d := impl.Mean(r, x, name, s, fuel)
	if !sameDone(d, impl.Done{State: state, Fault: impl.FaultBad}) {
		t.Errorf("%s, name %.20q, fuel %d: not handed back: %s", what, name, fuel, doneText(d))
	}
	if !sameState(s, state) || !sameTree(x, tree) {
		t.Errorf("%s, name %.20q, fuel %d: an argument was written into", what, name, fuel)
	}
}
