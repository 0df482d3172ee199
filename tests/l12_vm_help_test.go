package tests

import (
	"fmt"
	"slices"
	"testing"

	"loop.example/g00070/impl"
)

func cloneState(s impl.State) impl.State {
	q := impl.State{World: cloneWorld(s.World), Cursors: slices.Clone(s.Cursors)}
	for _, one := range s.Streams {
		q.Streams = append(q.Streams, cloneStream(one))
	}
	return q
}

func sameState(a, b impl.State) bool {
	return sameWorld(a.World, b.World) && slices.EqualFunc(a.Streams, b.Streams, sameStream) && slices.Equal(a.Cursors, b.Cursors)
}

func likeCmd(a, b impl.Cmd) bool {
	return a.Kind == b.Kind && a.Who == b.Who && a.Comp == b.Comp && same(a.Val, b.Val) && slices.EqualFunc(a.List, b.List, sameCell)
}

func sameDone(a, b impl.Done) bool {
	return sameState(a.State, b.State) && slices.EqualFunc(a.Cmds, b.Cmds, likeCmd) && a.Fault == b.Fault && a.Steps == b.Steps
}

func doneText(d impl.Done) string {
	return fmt.Sprintf("fault %d, steps %d, commands %v\nthings %v\ntables %v\nresources %v\nstreams %v\ncursors %v",
		d.Fault, d.Steps, d.Cmds, d.State.World.Ents, d.State.World.Tables, d.State.World.Res, d.State.Streams, d.State.Cursors)
}

// runWorld has tables of several columns of checkReg, with some rows, one and
// none.
func runWorld() impl.World {
	return impl.World{
		Ents: ents([]int{4, 0, 7, 1, 0, 2}, 2),
		Tables: []impl.Table{
			table([]int{0, 4}, []impl.Ent{ent(0, 4), ent(3, 1)}, []impl.Val{whole(10), whole(30)}, []impl.Val{whole(1), whole(3)}),
			table([]int{1}, nil, nil),
			table([]int{0, 1, 2, 3}, []impl.Ent{ent(5, 2)}, []impl.Val{whole(50)}, []impl.Val{float(0.5)}, []impl.Val{pair(5, -5)}, []impl.Val{yesNo(true)}),
			table(nil, []impl.Ent{ent(1, 0)}),
			table([]int{0}, []impl.Ent{ent(4, 0)}, []impl.Val{whole(40)}),
		},
		Res: []impl.Val{whole(1000), float(1.5), pair(negZero, 2), yesNo(false)},
	}
}

// runState has events in each stream but one, and cursors ahead of them,
// behind them and among them.
func runState() impl.State {
	return impl.State{
		World:   runWorld(),
		Streams: []impl.Stream{countedFrom(5, 2, 1), stream(9, nil, nil), stream(3, []impl.Val{pair(1, 2)}, nil), stream(0, nil, []impl.Val{yesNo(true)})},
		Cursors: []int{6, 0, 77, -7},
	}
}

// program is one of a single function with so many locals.
func program(slots int, code string, lists ...[]int) impl.Program {
	return impl.Program{Code: codeOf(code), Starts: []int{0}, Slots: []int{slots}, Lists: lists}
}

// ran runs, and asks for all that holds of every run: the arguments stay, the
// state is right behind it, steps are as many as there may be, and all is as a
// plain machine leaves it.
func ran(t *testing.T, r impl.Reg, p impl.Program, s impl.State, fuel int) impl.Done {
	t.Helper()
	state, prog := cloneState(s), cloneProgram(p)
	d := impl.Machine(r, p, s, fuel)
	if !sameState(s, state) || !sameProgram(p, prog) {
		t.Fatalf("an argument was written into:%s", progText(prog))
	}
	if want := plainRun(r, p, s, fuel); !sameDone(d, want) {
		t.Fatalf("fuel %d:%s\nhave %s\nwant %s", fuel, progText(p), doneText(d), doneText(want))
	}
	if d.Fault == impl.FaultBad {
		return d
	}
	if !impl.StateOk(r, d.State) || d.Steps < 0 || d.Steps > fuel || d.Fault == impl.FaultFuel && d.Steps != fuel {
		t.Fatalf("fuel %d:%s\nnot right: %s", fuel, progText(p), doneText(d))
	}
	if d.Fault != impl.FaultNone && len(d.Cmds) > 0 || len(d.Cmds) > impl.MaxCmds {
		t.Fatalf("commands:%s\n%s", progText(p), doneText(d))
	}
	for _, c := range d.Cmds {
		if !impl.CmdOk(r, c) {
			t.Fatalf("a command that is not right:%s\n%s", progText(p), doneText(d))
		}
	}
	return d
}

// leftBehind runs, and asks for what is left of the state that was found: then
// writes down what is another one, its Fault, Steps and commands too.
func leftBehind(t *testing.T, what string, p impl.Program, s impl.State, fuel int, then func(d *impl.Done)) {
	t.Helper()
	want := impl.Done{State: cloneState(s)}
	then(&want)
	if d := ran(t, checkReg(), p, s, fuel); !sameDone(d, want) {
		t.Errorf("%s, fuel %d:%s\nhave %s\nwant %s", what, fuel, progText(p), doneText(d), doneText(want))
	}
}

// byFuel asks for what a run is at every fuel that may be another one: with
// less than its steps it runs out, with any more it is the same.
func byFuel(t *testing.T, r impl.Reg, p impl.Program, s impl.State) impl.Done {
	t.Helper()
	d := ran(t, r, p, s, impl.MaxFuel)
	fuels := []int{0, 1, 2, 3, 5, 8, 13, 21, 34, 55, d.Steps / 2, d.Steps - 2, d.Steps - 1, d.Steps, d.Steps + 1, d.Steps + 7, impl.MaxFuel - 1}
	for _, fuel := range fuels {
		if fuel < 0 || fuel > impl.MaxFuel {
			continue
		}
		q := ran(t, r, p, s, fuel)
		if d.Fault == impl.FaultFuel && q.Fault != impl.FaultFuel {
			t.Fatalf("with more fuel it runs out, with %d not:%s", fuel, progText(p))
		}
		if d.Fault == impl.FaultFuel {
			continue
		}
		if fuel >= d.Steps && !sameDone(q, d) {
			t.Fatalf("it has %d steps, and is another one with the fuel %d:%s\n%s\n%s", d.Steps, fuel, progText(p), doneText(d), doneText(q))
		}
		if fuel < d.Steps && (q.Fault != impl.FaultFuel || q.Steps != fuel || len(q.Cmds) > 0) {
			t.Fatalf("it has %d steps, and does not run out with the fuel %d:%s\n%s", d.Steps, fuel, progText(p), doneText(q))
		}
	}
	return d
}
