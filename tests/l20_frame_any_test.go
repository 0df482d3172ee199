package tests

import (
	"slices"
	"strings"
	"testing"

	"loop.example/g00070/impl"
)

// anyGame is a right game of that schedule.
func anyGame(d *dice, s impl.Sched) impl.Game {
	g := gameOf(s, anyState(d, s.Reg))
	for _, list := range g.Cursors {
		for i, one := range g.Streams {
			list[i] = oneOf(d, someCursors(one))
		}
	}
	g.Clocks = anyClocks(d, s)
	return g
}

// anyWritten is a schedule of the systems of a text by chance, with rules along
// the order of the text, and gates.
func anyWritten(w *author) impl.Sched {
	for {
		x := treeOf(w.text(9, 2)...)
		text, _ := impl.Print(x)
		if _, code, _ := impl.Parse(text); code != impl.ParDone {
			continue
		}
		s := impl.Sched{Reg: checkReg(), Text: text}
		for _, name := range systemsOf(x) {
			for _, ahead := range s.Systems {
				if len(s.Rules) < impl.MaxRules && w.roll(4) == 0 {
					s.Rules = append(s.Rules, impl.Rule{Before: ahead.Name, After: name})
				}
			}
			system := impl.Sys{Name: name}
			if w.roll(2) == 0 {
				anyGate(&w.dice, &system)
			}
			s.Systems = append(s.Systems, system)
		}
		return s
	}
}

// anyShow is a schedule that has a plan: of systems that are known, or of such
// as were written by chance.
func anyShow(w *author) impl.Sched {
	if w.roll(3) == 0 {
		return anyPlanned(&w.dice, 0)
	}
	return anyWritten(w)
}

func anyFuel(d *dice) int { return oneOf(d, []int{0, 1, 3, 8, 40, 300, impl.MaxFuel, impl.MaxFuel}) }

func TestAnyFrames(t *testing.T) {
	w := newAuthor(201)
	faults, stages, codes, late := map[int]int{}, map[int]int{}, map[int]int{}, 0
	for range 500 {
		s := anyShow(w)
		g := anyGame(&w.dice, s)
		for range 3 {
			f := frameDone(t, s, g, anyTick(&w.dice), anyFuel(&w.dice))
			stages[len(f.Codes)]++
			for _, wrong := range f.Troubles {
				faults[wrong.Fault]++
			}
			for i, stage := range f.Codes {
				for _, code := range slices.Concat(stage...) {
					codes[code]++
					late += yes(i > 0)
				}
			}
			g = f.Game
		}
	}
	if faults[impl.FaultZero] < 50 || faults[impl.FaultFuel] < 200 || faults[impl.FaultFull] < 10 || stages[0] < 10 || stages[1] < 200 || stages[2] < 50 || stages[3] < 10 {
		t.Error("hardly any:", faults, stages)
	}
	if codes[impl.WDone] < 500 || codes[impl.WDead] < 20 || codes[impl.WLack] < 20 || late < 100 {
		t.Error("hardly any:", codes, late)
	}
}

func TestAnyTasks(t *testing.T) {
	w := newAuthor(202)
	met := map[[2]int]int{}
	for range 800 {
		s := anyShow(w)
		g := anyGame(&w.dice, s)
		for system := range s.Systems {
			times, fuel := w.roll(impl.MaxTimes+1), anyFuel(&w.dice)
			_, cmds, wrong := taskDone(t, s, g, system, times, fuel)
			met[[2]int{times, wrong.Fault}]++
			met[[2]int{times, -1}] += yes(len(cmds) > 0)
		}
	}
	for times := 1; times <= impl.MaxTimes; times++ {
		if met[[2]int{times, impl.FaultNone}] < 100 || met[[2]int{times, impl.FaultZero}] < 5 || met[[2]int{times, impl.FaultFuel}] < 20 || met[[2]int{times, -1}] < 20 {
			t.Error("hardly any", times, met)
		}
	}
}

// tiring is bodies of which a run behind others fails, sooner or later.
var tiring = []string{
	"spawn(Hp = $Score); emit Hit $Score; $Score = $Score - 1; let q = 10 / $Score; $Wind = $Wind + 1.0;",
	"hear Hit as h { $Wind = $Wind + real(h); } $Score = $Score + 1; loop $Score * 6 { spawn(); }",
	"loop 70 { emit Hit $Score; } spawn(Mp = 1); $Score = $Score + 1;",
	"each with Mp { put Hp = .Mp; .Mp = .Mp * 3 + 1; loop .Mp { $Wind = $Wind + 0.5; } }",
	"loop 25 { spawn(); } $Score = $Score + 2;",
	"$Score = $Score + 2; each with Hp { kill; }",
}

// Faults of a first run, of one behind it and of the last one, beside others.
func TestAnyFaultInALaterRun(t *testing.T) {
	d := dice(210)
	failed := map[int]int{} // by the run that fails
	for range 250 {
		var tops []string
		for _, name := range schedNames[:1+d.roll(4)] {
			tops = append(tops, name+oneOf(&d, []string{" every=1: ", " every=2: ", ": "})+oneOf(&d, tiring))
		}
		s := staged(oneOf(&d, []string{"", "", "a>a"}), tops...)
		if len(tops) > 2 && d.roll(2) == 0 {
			s.Rules = append(s.Rules, impl.Rule{Before: "c", After: "a"})
		}
		g := anyGame(&d, s)
		for range 3 {
			fuel := 30 + d.roll(200)
			for system := range s.Systems {
				for times := 1; times <= impl.MaxTimes; times++ {
					_, _, wrong := taskDone(t, s, g, system, times, fuel)
					if wrong.Fault != impl.FaultNone {
						failed[times]++
						break
					}
				}
			}
			g = frameDone(t, s, g, d.roll(9), fuel).Game
		}
	}
	if failed[1] < 100 || failed[2] < 100 || failed[3] < 100 || failed[4] < 50 {
		t.Error("hardly any:", failed)
	}
}

// Runs one behind the other, each by a Task of its own, are those of one Task,
// as long as none fails.
func TestAnyTasksInParts(t *testing.T) {
	w := newAuthor(203)
	whole := 0
	for range 400 {
		s := anyShow(w)
		g := anyGame(&w.dice, s)
		for system := range s.Systems {
			first, second := w.roll(3), w.roll(3)
			at, list, wrong := impl.Task(s, g, system, first, impl.MaxFuel)
			if wrong.Fault != impl.FaultNone {
				// what is behind a fault is not looked at
				q, cmds, again := impl.Task(s, g, system, first+second, impl.MaxFuel)
				if !sameGame(q, at) || len(cmds) != 0 || again != wrong {
					t.Fatalf("a run behind a fault: %v, not %v\n%s", again, wrong, schedWhole(s))
				}
				continue
			}
			next, more, last := impl.Task(s, at, system, second, impl.MaxFuel)
			q, cmds, told := impl.Task(s, g, system, first+second, impl.MaxFuel)
			if second == 0 {
				last = wrong
			}
			if last.Fault == impl.FaultNone && len(list)+len(more) <= impl.MaxCmds {
				whole++
				if !slices.EqualFunc(cmds, slices.Concat(list, more), likeCmd) || !sameGame(q, next) || told != last {
					t.Fatalf("in two parts: %v, at once %v\n%s", last, told, schedWhole(s))
				}
			}
		}
	}
	if whole < 500 {
		t.Error("hardly any:", whole)
	}
}

// Two systems that are apart leave the same game in either order, the same
// commands and the same troubles.
func TestAnyTwoThatAreApart(t *testing.T) {
	w := newAuthor(204)
	tried, changed, wrote := 0, 0, 0
	for range 700 {
		s := anyShow(w)
		p, _, _ := impl.MakePlan(s)
		g := anyGame(&w.dice, s)
		fuel := anyFuel(&w.dice)
		for range 6 {
			if len(s.Systems) < 2 {
				break
			}
			a, b := w.roll(len(s.Systems)), w.roll(len(s.Systems))
			if a == b || !impl.Apart(p.Effects[a], p.Effects[b]) {
				continue
			}
			times, often := w.roll(impl.MaxTimes+1), 1+w.roll(impl.MaxTimes)
			first, cmdsA, wrongA := impl.Task(s, g, a, times, fuel)
			one, cmdsB, wrongB := impl.Task(s, first, b, often, fuel)
			second, listB, toldB := impl.Task(s, g, b, often, fuel)
			other, listA, toldA := impl.Task(s, second, a, times, fuel)
			if !sameGame(one, other) || wrongA != toldA || wrongB != toldB || !slices.EqualFunc(cmdsA, listA, likeCmd) || !slices.EqualFunc(cmdsB, listB, likeCmd) {
				t.Fatalf("%d and %d in either order: %v %v, %v %v\n%s\n%s\n%s", a, b, wrongA, wrongB, toldA, toldB, gameText(one), gameText(other), schedWhole(s))
			}
			tried++
			changed += yes(!sameGame(first, g) && !sameGame(second, g))
			wrote += yes(len(cmdsA) > 0 || len(cmdsB) > 0)
		}
	}
	if tried < 400 || changed < 50 || wrote < 50 {
		t.Error("hardly any:", tried, changed, wrote)
	}
}

// anyBodies is systems that stand in one stage, since no rule is between them.
func anyBodies(d *dice) []string {
	bodies := bodyNames()
	var tops []string
	for _, name := range schedNames[:1+d.roll(6)] {
		tops = append(tops, name+": "+planBodies[oneOf(d, bodies)])
	}
	return tops
}

// Who fails ahead of all that it does is as one that does nothing, for all
// others; and is told.
func TestAnyFaultStopsItsOwnSystemAlone(t *testing.T) {
	d := dice(205)
	for range 250 {
		tops := anyBodies(&d)
		at := d.roll(len(tops))
		head, body, _ := strings.Cut(tops[at], ":")
		tops[at] = head + ": let q = 1 / 0;" + body
		fails := staged("", append([]string{planFns}, tops...)...)
		tops[at] = head + ":"
		idle := staged("", append([]string{planFns}, tops...)...)
		g := anyGame(&d, fails)
		f, h := frameDone(t, fails, g, anyTick(&d), 200), frameDone(t, idle, g, 0, 200)
		if !slices.Contains(f.Troubles, trouble(at, impl.FaultZero, 1)) || len(f.Troubles) != len(h.Troubles)+1 {
			t.Fatalf("troubles %v\n%s", f.Troubles, fails.Text)
		}
		f.Troubles = slices.DeleteFunc(f.Troubles, func(one impl.Trouble) bool { return one.System == at })
		if !sameFrame(f, h) {
			t.Fatalf("a fault of %d:\n%s\n%s\n%s", at, frameText(f), frameText(h), fails.Text)
		}
	}
}

// Who fails behind all that it does has done all but its commands.
func TestAnyFaultDropsWhatWasWrittenDown(t *testing.T) {
	d := dice(206)
	dropped := 0
	for range 250 {
		tops := anyBodies(&d)
		right := staged("", append([]string{planFns}, tops...)...)
		at := d.roll(len(tops))
		tops[at] += " let qq = 1 / 0;"
		fails := staged("", append([]string{planFns}, tops...)...)
		g := anyGame(&d, right)
		want, cmds, told := taskDone(t, right, g, at, 1, impl.MaxFuel-1)
		if told.Fault != impl.FaultNone {
			continue
		}
		dropped += yes(len(cmds) > 0)
		if next := taskIs(t, fails, g, at, 1, impl.MaxFuel, 0, trouble(at, impl.FaultZero, told.Steps+1)); !sameGame(next, want) {
			t.Fatalf("%s\n%s\n%s", gameText(next), gameText(want), fails.Text)
		}
		taskIs(t, fails, g, at, 4, impl.MaxFuel, 0, trouble(at, impl.FaultZero, told.Steps+1))
		f := frameDone(t, fails, g, 0, impl.MaxFuel)
		if !slices.Contains(f.Troubles, trouble(at, impl.FaultZero, plainSteps(f, at))) || len(f.Codes[0][at]) != 0 {
			t.Fatalf("troubles %v codes %v\n%s", f.Troubles, f.Codes, fails.Text)
		}
	}
	if dropped < 30 {
		t.Error("hardly any:", dropped)
	}
}

// plainSteps is those of a system's trouble, -1 where it has none.
func plainSteps(f impl.Frame, system int) int {
	for _, one := range f.Troubles {
		if one.System == system {
			return one.Steps
		}
	}
	return -1
}

// Systems that write nothing down leave the same things, frame by frame.
func TestAnyFramesThatWriteNothingDown(t *testing.T) {
	w := newAuthor(207)
	tried := 0
	for range 600 {
		s := anyShow(w)
		p, _, _ := impl.MakePlan(s)
		s.Rules = nil
		for i := len(s.Systems) - 1; i >= 0; i-- {
			if impl.Commands(p.Effects[i]) {
				s.Systems = slices.Delete(slices.Clone(s.Systems), i, i+1)
			}
		}
		if len(s.Systems) == 0 {
			continue
		}
		tried++
		g := anyGame(&w.dice, s)
		first := g.World
		for range 3 {
			g = frameDone(t, s, g, anyTick(&w.dice), anyFuel(&w.dice)).Game
			sameThings(t, first, g.World)
		}
	}
	if tried < 200 {
		t.Error("hardly any:", tried)
	}
}

// Many frames of one game: it is right behind each of them.
func TestAnyGamesOverManyFrames(t *testing.T) {
	w := newAuthor(208)
	for range 12 {
		s := anyShow(w)
		g := newGame(t, s)
		for range 40 {
			f, code, at := impl.FrameOne(s, g, w.roll(20), impl.MaxSteps)
			if code != impl.SchDone || at != 0 || !impl.GameOk(s, f.Game) {
				t.Fatalf("%d %d\n%s\n%s", code, at, frameText(f), schedWhole(s))
			}
			g = f.Game
		}
	}
}

func plainGameOk(s impl.Sched, g impl.Game) bool {
	if code, _ := plainSchedOk(s); code != impl.SchDone || len(g.Cursors) != len(s.Systems) || len(g.Clocks.Acc) != len(s.Systems) {
		return false
	}
	for i := range s.Systems {
		if acc := g.Clocks.Acc[i]; acc < 0 || acc > 4000000 || !plainStateOk(s.Reg, stateOf(g, i)) {
			return false
		}
	}
	return plainStateOk(s.Reg, impl.State{World: g.World, Streams: g.Streams, Cursors: make([]int, len(g.Streams))})
}

// marGame turns one thing of a game, which may be right still.
func marGame(d *dice, g *impl.Game) {
	switch d.roll(9) {
	case 0:
		g.Cursors = append(g.Cursors, []int{0, 0, 0, 0})[d.roll(2):]
	case 1:
		if len(g.Cursors) > 0 {
			at := d.roll(len(g.Cursors))
			g.Cursors[at] = append(g.Cursors[at], 0)[d.roll(3):]
		}
	case 2:
		g.Clocks.Acc = append(g.Clocks.Acc, 0)[d.roll(2):]
	case 3:
		if len(g.Clocks.Acc) > 0 {
			g.Clocks.Acc[d.roll(len(g.Clocks.Acc))] = oneOf(d, []int{-1, leastInt, 4000001, 4000000, mostInt})
		}
	case 4:
		g.Streams = append(g.Streams, impl.Stream{})[d.roll(2):]
	case 5:
		one := &g.Streams[d.roll(len(g.Streams))]
		one.New = append(one.New, anyOf(d, 1+d.roll(4)))
	case 6:
		g.Streams[d.roll(len(g.Streams))].First = oneOf(d, []int{-1, 0, impl.MaxFirst, impl.MaxFirst + 1})
	case 7:
		g.World.Res[d.roll(len(g.World.Res))] = anyOf(d, 1+d.roll(4))
	case 8:
		g.World.Ents.Free = append(g.World.Ents.Free, d.roll(4)-1)
	}
}

// One thing turned, or several: right or refused, as the plain answer has it.
func TestAnyMarredGames(t *testing.T) {
	w := newAuthor(209)
	d := &w.dice
	met, right := map[int]int{}, 0
	for i := range 2500 {
		s := anyShow(w)
		g := anyGame(d, s)
		tick, fuel := anyTick(d), anyFuel(d)
		if i%5 == 0 {
			s = cloneSched(s)
			oneOf(d, schedFaults)(d, &s)
		}
		if i%5 != 1 {
			marGame(d, &g)
		}
		if i%7 == 0 {
			tick = oneOf(d, []int{-1, impl.MaxTick + 1, leastInt, mostInt})
		}
		if i%7 == 1 {
			fuel = oneOf(d, wrongFuels)
		}
		ok := plainGameOk(s, g)
		if impl.GameOk(s, g) != ok {
			t.Fatalf("GameOk is not %v\n%s\n%s", ok, gameText(g), schedWhole(s))
		}
		code, at := plainRefusal(s)
		if code == impl.SchDone && (!ok || tick < 0 || tick > impl.MaxTick || fuel < 0 || fuel > impl.MaxFuel) {
			code, at = impl.SchMany, 1
		}
		met[code]++
		if code == impl.SchDone {
			frameDone(t, s, g, tick, fuel)
		} else {
			frameRefused(t, "by chance", s, g, tick, fuel, code, at)
		}
		system, times := d.roll(len(s.Systems)+3)-1, d.roll(7)-1
		if ok && system >= 0 && system < len(s.Systems) && times >= 0 && times <= impl.MaxTimes && fuel >= 0 && fuel <= impl.MaxFuel {
			right++
			taskDone(t, s, g, system, times, fuel)
		} else {
			taskRefused(t, "by chance", s, g, system, times, fuel)
		}
		if t.Failed() {
			return
		}
	}
	if met[impl.SchDone] < 300 || met[impl.SchMany] < 1000 || right < 100 || len(met) < 7 {
		t.Error("hardly any:", met, right)
	}
}
