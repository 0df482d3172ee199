package tests

import (
	"fmt"
	"slices"
	"strings"
	"testing"

	"loop.example/g00070/impl"
)

// staged is a schedule by checkReg with the rules "a>b b>c". Each of the tops is
// a system such as "a: $Score = 1;" or, with its gates, "a every=10,in=2: ..";
// or a function, as it is written.
func staged(rules string, tops ...string) impl.Sched {
	s := schedOf("", rules)
	s.Text = ""
	for _, top := range tops {
		head, body, isSystem := strings.Cut(top, ":")
		if !isSystem {
			s.Text += top + "\n"
			continue
		}
		words := strings.Fields(head)
		system := impl.Sys{Name: words[0]}
		for _, word := range words[1:] {
			setGates(&system, word)
		}
		s.Text += "system " + words[0] + " {" + body + " }\n"
		s.Systems = append(s.Systems, system)
	}
	return s
}

func cloneGame(g impl.Game) impl.Game {
	q := impl.Game{World: cloneWorld(g.World), Clocks: g.Clocks}
	for _, one := range g.Streams {
		q.Streams = append(q.Streams, cloneStream(one))
	}
	for _, list := range g.Cursors {
		q.Cursors = append(q.Cursors, slices.Clone(list))
	}
	q.Clocks.Acc = slices.Clone(g.Clocks.Acc)
	return q
}

// gameBy is a copy of a game with one change.
func gameBy(g impl.Game, turn func(g *impl.Game)) impl.Game {
	g = cloneGame(g)
	turn(&g)
	return g
}

func sameGame(a, b impl.Game) bool {
	return sameWorld(a.World, b.World) && slices.EqualFunc(a.Streams, b.Streams, sameStream) &&
		slices.EqualFunc(a.Cursors, b.Cursors, slices.Equal) && sameClocks(a.Clocks, b.Clocks)
}

func gameText(g impl.Game) string {
	return fmt.Sprintf("%.2000s", fmt.Sprintf("things %v\ntables %v\nresources %v\nstreams %v\ncursors %v\nclocks %s",
		g.World.Ents, g.World.Tables, g.World.Res, g.Streams, g.Cursors, clocksText(g.Clocks)))
}

func sameFrame(a, b impl.Frame) bool {
	return sameGame(a.Game, b.Game) && slices.Equal(a.Troubles, b.Troubles) && slices.EqualFunc(a.Codes, b.Codes, sameCodes)
}

func frameText(f impl.Frame) string {
	return fmt.Sprintf("troubles %v codes %v\n%s", f.Troubles, f.Codes, gameText(f.Game))
}

func schedWhole(s impl.Sched) string { return fmt.Sprintf("%s\n%s", schedLine(s), s.Text) }

func trouble(system, fault, steps int) impl.Trouble {
	return impl.Trouble{System: system, Fault: fault, Steps: steps}
}

// stateOf is what a system of a game finds.
func stateOf(g impl.Game, system int) impl.State {
	return impl.State{World: g.World, Streams: g.Streams, Cursors: g.Cursors[system]}
}

// newGame asks for a new game that is right.
func newGame(t *testing.T, s impl.Sched) impl.Game {
	t.Helper()
	g, ok := impl.NewGame(s)
	if !ok || !impl.GameOk(s, g) {
		t.Fatalf("no new game: %v\n%s\n%s", ok, gameText(g), schedWhole(s))
	}
	return g
}

// gameOf is a right game of the schedule with a state's world and streams, its
// cursors for each system, and no frame before.
func gameOf(s impl.Sched, state impl.State) impl.Game {
	state = cloneState(state)
	g := impl.Game{World: state.World, Streams: state.Streams, Clocks: impl.Clocks{Acc: make([]int, len(s.Systems))}}
	for range s.Systems {
		g.Cursors = append(g.Cursors, slices.Clone(state.Cursors))
	}
	return g
}

// oneRun tells one run of a system.
type oneRun func(system int, state impl.State, fuel int) impl.Done

// byMean runs as Mean tells.
func byMean(s impl.Sched) oneRun {
	x, _, _ := impl.Parse(s.Text)
	return func(system int, state impl.State, fuel int) impl.Done {
		return impl.Mean(s.Reg, x, s.Systems[system].Name, state, fuel)
	}
}

// byOwnMeaning runs as the tests' own meaning tells.
func byOwnMeaning(s impl.Sched) oneRun {
	x, _, _ := impl.Parse(s.Text)
	a := newAudit(s.Reg, x)
	return func(system int, state impl.State, fuel int) impl.Done {
		return meant(a, impl.TopOf(x, s.Systems[system].Name), state, fuel)
	}
}

// plainTask is for right arguments: all runs are made, as if none could fail,
// and what is told is found in the list of them.
func plainTask(run oneRun, g impl.Game, system, times, fuel int) (impl.Game, []impl.Cmd, impl.Trouble) {
	g = cloneGame(g)
	var cmds []impl.Cmd
	var last impl.Done
	state := stateOf(g, system)
	for range times {
		last = run(system, state, fuel)
		state = cloneState(last.State)
		cmds = slices.Concat(cmds, last.Cmds)
		if len(cmds) > impl.MaxCmds {
			last.Fault = impl.FaultFull
		}
		if last.Fault != impl.FaultNone {
			cmds = nil
			break
		}
	}
	g.World, g.Streams, g.Cursors[system] = state.World, state.Streams, state.Cursors
	return g, cmds, trouble(system, last.Fault, last.Steps)
}

// plainFrame is for right arguments, by the tests' own plans, times, runs and
// changes one by one.
func plainFrame(s impl.Sched, g impl.Game, tick, fuel int) impl.Frame {
	p := plainPlan(s)
	run := byOwnMeaning(s)
	times, clocks := plainTimes(s, g.World, g.Clocks, tick)
	f := impl.Frame{Game: cloneGame(g)}
	last := -1
	for _, stage := range p.Stage {
		last = max(last, stage)
	}
	for stage := range last + 1 {
		var bufs [][]impl.Cmd
		for _, system := range p.Order {
			if p.Stage[system] != stage || times[system] == 0 {
				continue
			}
			next, cmds, wrong := plainTask(run, f.Game, system, times[system], fuel)
			f.Game, bufs = next, append(bufs, cmds)
			if wrong.Fault != impl.FaultNone {
				f.Troubles = append(f.Troubles, wrong)
			}
		}
		w, codes := byCalls(s.Reg, f.Game.World, bufs)
		f.Game.World, f.Codes = w, append(f.Codes, codes)
	}
	for i, one := range f.Game.Streams {
		first := one.First + len(one.Old)
		if first > impl.MaxFirst {
			first = 0
		}
		f.Game.Streams[i] = stream(first, one.New, nil)
	}
	f.Game.Clocks = clocks
	return f
}

// partsFrame is for right arguments, put together out of MakePlan, Times, Mean,
// Merge and Turn.
func partsFrame(s impl.Sched, g impl.Game, tick, fuel int) impl.Frame {
	p, _, _ := impl.MakePlan(s)
	times, clocks, _ := impl.Times(s, g.World, g.Clocks, tick)
	f := impl.Frame{Game: cloneGame(g)}
	order := p.Order
	for stage := range impl.Stages(p) {
		var bufs [][]impl.Cmd
		for ; len(order) > 0 && p.Stage[order[0]] == stage; order = order[1:] {
			if times[order[0]] == 0 {
				continue
			}
			next, cmds, wrong := plainTask(byMean(s), f.Game, order[0], times[order[0]], fuel)
			f.Game, bufs = next, append(bufs, cmds)
			if wrong.Fault != impl.FaultNone {
				f.Troubles = append(f.Troubles, wrong)
			}
		}
		w, codes, _ := impl.Merge(s.Reg, f.Game.World, bufs)
		f.Game.World, f.Codes = w, append(f.Codes, codes)
	}
	for i, one := range f.Game.Streams {
		f.Game.Streams[i] = impl.Turn(one)
	}
	f.Game.Clocks = clocks
	return f
}

// taskDone asks for what a Task tells that is not refused, and for all that
// holds of every such one.
func taskDone(t *testing.T, s impl.Sched, g impl.Game, system, times, fuel int) (impl.Game, []impl.Cmd, impl.Trouble) {
	t.Helper()
	was, sched := cloneGame(g), cloneSched(s)
	next, cmds, wrong := impl.Task(s, g, system, times, fuel)
	if !sameGame(g, was) || schedLine(s) != schedLine(sched) {
		t.Fatalf("Task has written into an argument:\n%s", schedWhole(sched))
	}
	for _, run := range []oneRun{byMean(s), byOwnMeaning(s)} {
		want, list, told := plainTask(run, g, system, times, fuel)
		if !sameGame(next, want) || !slices.EqualFunc(cmds, list, likeCmd) || wrong != told {
			t.Fatalf("Task of %d, %d times, fuel %d:\nhave %v %v\n%s\nwant %v %v\n%s\n%s", system, times, fuel, wrong, cmds, gameText(next), told, list, gameText(want), schedWhole(s))
		}
	}
	if !impl.GameOk(s, next) || !sameClocks(next.Clocks, g.Clocks) || len(cmds) > impl.MaxCmds || wrong.Fault != impl.FaultNone && len(cmds) > 0 {
		t.Fatalf("Task of %d, %d times, fuel %d: %v %v\n%s\n%s", system, times, fuel, wrong, cmds, gameText(next), schedWhole(s))
	}
	sameThings(t, g.World, next.World)
	for i, list := range next.Cursors {
		if i != system && !slices.Equal(list, g.Cursors[i]) {
			t.Fatalf("Task of %d turns the cursors of %d:\n%s", system, i, schedWhole(s))
		}
	}
	return next, cmds, wrong
}

// taskIs asks for a trouble and for how many commands are told.
func taskIs(t *testing.T, s impl.Sched, g impl.Game, system, times, fuel, cmds int, want impl.Trouble) impl.Game {
	t.Helper()
	next, list, wrong := taskDone(t, s, g, system, times, fuel)
	if len(list) != cmds || wrong != want {
		t.Errorf("Task of %d, %d times, fuel %d: %v, %d commands, not %v, %d: %s", system, times, fuel, wrong, len(list), want, cmds, s.Text)
	}
	return next
}

// taskRefused asks for the game handed back, and nothing else.
func taskRefused(t *testing.T, what string, s impl.Sched, g impl.Game, system, times, fuel int) {
	t.Helper()
	was := cloneGame(g)
	next, cmds, wrong := impl.Task(s, g, system, times, fuel)
	if !sameGame(next, was) || !sameGame(g, was) || len(cmds) != 0 || wrong != (impl.Trouble{}) {
		t.Errorf("%s: Task of %d, %d times, fuel %d: %v %v, handed back: %v\n%s", what, system, times, fuel, wrong, cmds, sameGame(next, was), schedWhole(s))
	}
}

// sameThings asks that nothing but values has changed.
func sameThings(t *testing.T, a, b impl.World) {
	t.Helper()
	alike := slices.EqualFunc(a.Tables, b.Tables, func(x, y impl.Table) bool {
		return slices.Equal(x.Cols, y.Cols) && slices.Equal(x.Rows, y.Rows)
	})
	if !alike || !sameEnts(a.Ents, b.Ents) {
		t.Fatalf("not the same things:\n%v %v\n%v %v", a.Ents, a.Tables, b.Ents, b.Tables)
	}
}

// frameDone asks for what a frame leaves that is not refused, and for all that
// holds of every such one.
func frameDone(t *testing.T, s impl.Sched, g impl.Game, tick, fuel int) impl.Frame {
	t.Helper()
	was, sched := cloneGame(g), cloneSched(s)
	f, code, at := impl.FrameOne(s, g, tick, fuel)
	if code != impl.SchDone || at != 0 {
		t.Fatalf("FrameOne, tick %d, fuel %d: %d %d\n%s", tick, fuel, code, at, schedWhole(s))
	}
	if !sameGame(g, was) || schedLine(s) != schedLine(sched) {
		t.Fatalf("FrameOne has written into an argument:\n%s", schedWhole(sched))
	}
	for _, want := range []impl.Frame{plainFrame(s, g, tick, fuel), partsFrame(s, g, tick, fuel)} {
		if !sameFrame(f, want) {
			t.Fatalf("FrameOne, tick %d, fuel %d:\nhave %s\nwant %s\n%s", tick, fuel, frameText(f), frameText(want), schedWhole(s))
		}
	}
	if !impl.GameOk(s, f.Game) {
		t.Fatalf("a game that is not right behind a frame:\n%s\n%s", frameText(f), schedWhole(s))
	}
	codes := 0
	for _, stage := range f.Codes {
		codes += len(slices.Concat(stage...))
	}
	if codes == 0 {
		sameThings(t, g.World, f.Game.World)
	}
	return f
}

// frameIs asks for the troubles and codes of a frame, and hands its game on.
func frameIs(t *testing.T, s impl.Sched, g impl.Game, tick, fuel int, troubles, codes string) impl.Game {
	t.Helper()
	f := frameDone(t, s, g, tick, fuel)
	if fmt.Sprint(f.Troubles) != troubles || fmt.Sprint(f.Codes) != codes {
		t.Errorf("FrameOne, tick %d, fuel %d: troubles %v codes %v, not %s %s\n%s", tick, fuel, f.Troubles, f.Codes, troubles, codes, schedWhole(s))
	}
	return f.Game
}

// frameRefused asks for a code and a number, the game handed back, and nothing
// else.
func frameRefused(t *testing.T, what string, s impl.Sched, g impl.Game, tick, fuel, wantCode, wantAt int) {
	t.Helper()
	was := cloneGame(g)
	f, code, at := impl.FrameOne(s, g, tick, fuel)
	if code != wantCode || at != wantAt || !sameFrame(f, impl.Frame{Game: was}) || !sameGame(g, was) {
		t.Errorf("%s: FrameOne, tick %d, fuel %d: %d %d, not %d %d; handed back: %v\n%s", what, tick, fuel, code, at, wantCode, wantAt, sameGame(f.Game, was), schedWhole(s))
	}
}

// gameRefused asks for a game that is not right, for each function; the
// schedule has a plan.
func gameRefused(t *testing.T, what string, s impl.Sched, g impl.Game) {
	t.Helper()
	was := cloneGame(g)
	if impl.GameOk(s, g) || !sameGame(g, was) {
		t.Errorf("%s: GameOk\n%s\n%s", what, gameText(g), schedWhole(s))
	}
	for _, n := range []int{0, 1, impl.MaxTimes} {
		taskRefused(t, what, s, g, 0, n, 50)
		frameRefused(t, what, s, g, n, 50, impl.SchMany, 1)
	}
}

// scoreIs asks for the resource Score of a game.
func scoreIs(t *testing.T, g impl.Game, want int) {
	t.Helper()
	if g.World.Res[0] != whole(want) {
		t.Errorf("Score %v, not %d", g.World.Res[0], want)
	}
}

// liveIs asks for how many things are live.
func liveIs(t *testing.T, g impl.Game, want int) {
	t.Helper()
	if n := len(impl.EntList(g.World.Ents)); n != want {
		t.Errorf("%d things, not %d", n, want)
	}
}
