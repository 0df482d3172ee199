package tests

import (
	"slices"
	"testing"

	"loop.example/g00070/impl"
)

// wideBodies are apart from each other for the most part, and each changes
// something; some write commands down, some fail.
var wideBodies = []string{
	"each with Hp { .Hp = .Hp * 3 + 1; }",
	"each with Mp { .Mp = .Mp + 2; kill; }",
	"each with Mass { .Mass = .Mass + 0.5; } spawn(Mass = 2.0);",
	"each with Heat { .Heat = .Heat * 0.5; put On = yes; }",
	"each with On { .On = not .On; drop Heat; }",
	"$Score = $Score + 1; let q = 10 / ($Score % 3);",
	"$Wind = $Wind + 0.5; loop 30 { }",
	"$Home = $Home + pair(1.0, 2.0); spawn(); let q = 1 / 0;",
	"$Over = not $Over; loop 61 { spawn(); }",
	"loop 3 { emit Hit 2; }",
	"hear Hit as h { $Score = $Score + h; }",
	"hear Hit as h { } hear Burn as x { }",
	"emit Burn 0.25; spawn(Hp = 1, Pos = pair(0.0, 1.0));",
	"hear Burn as x { $Wind = $Wind + x; }",
	"each with Pos { .Pos = .Pos + pair(1.0, 0.0); } emit Went yes;",
	"let q = $Score; let r = $Wind;",
	"",
}

// anyWide is a schedule that has a plan, with many of them in one stage, and
// some that do not run.
func anyWide(d *dice) impl.Sched {
	var tops []string
	for _, name := range schedNames[:1+d.roll(impl.MaxSys)] {
		tops = append(tops, name+oneOf(d, []string{": ", ": ", ": ", " every=2: ", " when=Over: "})+oneOf(d, wideBodies))
	}
	s := staged("", tops...)
	for i, before := range s.Systems {
		for _, after := range s.Systems[i+1:] {
			if d.roll(30) == 0 && len(s.Rules) < impl.MaxRules {
				s.Rules = append(s.Rules, impl.Rule{Before: before.Name, After: after.Name})
			}
		}
	}
	return s
}

func anySideShow(w *author) impl.Sched {
	if w.roll(2) == 0 {
		return anyWide(&w.dice)
	}
	return anyShow(w)
}

// overAWay counts the waits that only a way by others tells.
func (a play) overAWay() int {
	count := 0
	for _, now := range a.shifts {
		direct := 0
		for _, e := range now.edges {
			direct += yes(slices.Contains(a.plan.Edges, impl.Edge{From: now.systems[e.From], To: now.systems[e.To]}))
		}
		count += yes(len(graph{len(now.systems), now.edges}.plainReduced()) > direct)
	}
	return count
}

func TestAnySides(t *testing.T) {
	w := newAuthor(234)
	d := &w.dice
	faults, stages, wide, turned, way, wrote := 0, map[int]int{}, map[int]int{}, 0, 0, 0
	for range 600 {
		s := anySideShow(w)
		a := playOf(t, s, anyGame(d, s), anyTick(d), anyFuel(d))
		for range 3 {
			workers := 1 + d.roll(impl.MaxWorkers)
			picks := anyPicks(d, 50)
			if d.roll(4) == 0 {
				// whoever can begins ahead of those that can end
				picks = slices.Repeat([]int{-1}, 2*impl.MaxSys)
			}
			for stage, moves := range a.side(t, workers, picks) {
				wide[impl.Widest(moves)]++
				var ends []int
				for _, m := range moves {
					if m.Kind == impl.MoveEnd {
						ends = append(ends, m.Task)
					}
				}
				turned += yes(!slices.Equal(ends, a.shifts[stage].systems))
			}
			a.in(t, a.anyOrders(d))
		}
		faults += len(a.one.Troubles)
		stages[len(a.shifts)]++
		way += a.overAWay()
		for _, codes := range a.one.Codes {
			wrote += len(slices.Concat(codes...))
		}
	}
	if faults < 300 || stages[0] < 5 || stages[1] < 100 || stages[2] < 50 || stages[3] < 5 || wide[0] < 10 || wide[1] < 300 || wide[2] < 100 || wide[4] < 50 || wide[6] < 5 {
		t.Error("hardly any:", faults, stages, wide)
	}
	if turned < 300 || way < 10 || wrote < 500 {
		t.Error("hardly any:", turned, way, wrote)
	}
}

// Many frames of one game, each by other workers and picks, or another order.
func TestAnySidesOverManyFrames(t *testing.T) {
	w := newAuthor(235)
	d := &w.dice
	for range 25 {
		s := anySideShow(w)
		g := newGame(t, s)
		one := g
		for frame := range 15 {
			tick := d.roll(20)
			a := playOf(t, s, one, tick, impl.MaxSteps)
			one = a.one.Game
			if frame%3 == 0 {
				f, _, _ := impl.FrameIn(s, g, tick, impl.MaxSteps, a.anyOrders(d))
				g = f.Game
			} else {
				f, _, _, _ := impl.FrameSide(s, g, tick, impl.MaxSteps, 1+d.roll(impl.MaxWorkers), anyPicks(d, 30))
				g = f.Game
			}
			if !sameGame(g, one) || !impl.GameOk(s, g) {
				t.Fatalf("frame %d:\n%s\n%v", frame, gameText(g), a)
			}
		}
	}
}

// Orders with one thing turned: right or refused as the plain answer has it.
func TestAnyOrders(t *testing.T) {
	w := newAuthor(236)
	d := &w.dice
	right, wrong := 0, 0
	for range 500 {
		s := anySideShow(w)
		a := playOf(t, s, anyGame(d, s), anyTick(d), anyFuel(d))
		for range 4 {
			orders := a.anyOrders(d)
			marOrders(d, &orders, len(s.Systems))
			if a.ordersOk(orders) {
				right++
				a.in(t, orders)
			} else {
				wrong++
				a.inRefused(t, "by chance", orders)
			}
		}
		if t.Failed() {
			return
		}
	}
	if right < 200 || wrong < 500 {
		t.Error("hardly any:", right, wrong)
	}
}

// marOrders turns one thing of orders, which may be right still.
func marOrders(d *dice, orders *[][]int, systems int) {
	if len(*orders) == 0 || d.roll(9) == 0 {
		*orders = append(*orders, nil)[d.roll(2):]
		return
	}
	at, to := d.roll(len(*orders)), d.roll(len(*orders))
	order := (*orders)[at]
	i, j := d.roll(len(order)), d.roll(len(order))
	switch d.roll(6) {
	case 0:
		(*orders)[at] = slices.Delete(order, i, i+1)
	case 1:
		(*orders)[at] = slices.Insert(order, i, order[j])
	case 2:
		order[i] = d.roll(systems+2) - 1
	case 3:
		(*orders)[at], (*orders)[to] = (*orders)[to], (*orders)[at]
	case 4:
		(*orders)[to] = append((*orders)[to], order[i])
		(*orders)[at] = slices.Delete((*orders)[at], i, i+1)
	default:
		order[i], order[j] = order[j], order[i]
	}
}

// One thing turned, or several: right or refused, as the plain answer has it.
func TestAnyMarredSides(t *testing.T) {
	w := newAuthor(237)
	d := &w.dice
	met := map[[2]int]int{}
	for i := range 900 {
		s := anySideShow(w)
		g := anyGame(d, s)
		tick, fuel := anyTick(d), anyFuel(d)
		workers, picks := 1+d.roll(impl.MaxWorkers), anyPicks(d, 30)
		if i%6 == 0 {
			s = cloneSched(s)
			oneOf(d, schedFaults)(d, &s)
		}
		if i%3 == 1 {
			marGame(d, &g)
		}
		if i%7 == 0 {
			tick = oneOf(d, []int{-1, impl.MaxTick + 1, leastInt, mostInt})
		}
		if i%8 == 0 {
			fuel = oneOf(d, wrongFuels)
		}
		if i%4 == 2 {
			workers = oneOf(d, []int{-1, 0, impl.MaxWorkers + 1, leastInt, mostInt})
		}
		if i%9 == 0 {
			picks = make([]int, impl.MaxPicks+d.roll(2))
		}
		code, at := plainRefusal(s)
		if code == impl.SchDone && (!plainGameOk(s, g) || tick < 0 || tick > impl.MaxTick || fuel < 0 || fuel > impl.MaxFuel) {
			code, at = impl.SchMany, 1
		}
		if code != impl.SchDone {
			frameInRefused(t, "by chance", s, g, tick, fuel, nil, code, at)
		}
		if code == impl.SchDone && (workers < 1 || workers > impl.MaxWorkers || len(picks) > impl.MaxPicks) {
			code, at = impl.SchMany, 2
		}
		met[[2]int{code, at * yes(code == impl.SchMany)}]++
		if code == impl.SchDone {
			playOf(t, s, g, tick, fuel).side(t, workers, picks)
		} else {
			frameSideRefused(t, "by chance", s, g, tick, fuel, workers, picks, code, at)
		}
		if t.Failed() {
			return
		}
	}
	if met[[2]int{impl.SchDone, 0}] < 150 || met[[2]int{impl.SchMany, 1}] < 150 || met[[2]int{impl.SchMany, 2}] < 50 || len(met) < 7 {
		t.Error("hardly any:", met)
	}
}

// No Task strays, whatever it does; what others do is told as the plain answer
// has it.
func TestAnyTaskDoesNotStray(t *testing.T) {
	w := newAuthor(238)
	d := &w.dice
	changed, strayed := 0, 0
	for range 220 {
		s := anySideShow(w)
		g := anyGame(d, s)
		for system := range s.Systems {
			next, _, _ := impl.Task(s, g, system, d.roll(impl.MaxTimes+1), anyFuel(d))
			changed += yes(!sameGame(next, g))
			strayIs(t, "its own task", s, g, next, system, false)
			other := d.roll(len(s.Systems))
			want := plainStray(s, g, next, other)
			strayed += yes(want)
			strayIs(t, "the task of another one", s, g, next, other, want)
		}
		if t.Failed() {
			return
		}
	}
	if changed < 400 || strayed < 200 {
		t.Error("hardly any:", changed, strayed)
	}
}

// turnGame gives one thing of a right game another value, or another place.
func turnGame(d *dice, r impl.Reg, g *impl.Game) {
	live := impl.EntList(g.World.Ents)
	at := d.roll(len(r.Evts))
	comp := d.roll(len(r.Comps))
	switch d.roll(8) {
	case 0:
		i := d.roll(len(r.Ress))
		g.World.Res[i] = anyOf(d, r.Ress[i].Kind)
	case 1:
		g.Streams[at].New = append(slices.Clone(g.Streams[at].New[:min(len(g.Streams[at].New), d.roll(4))]), anyOf(d, r.Evts[at].Kind))
	case 2:
		if len(g.Cursors) > 0 {
			g.Cursors[d.roll(len(g.Cursors))][at] = d.roll(5)
		}
	case 3:
		g.Streams[at] = impl.Turn(g.Streams[at])
	case 4:
		g.World, _, _ = impl.Spawn(r, g.World, []impl.Cell{cell(comp, anyOf(d, r.Comps[comp].Kind))})
	default:
		if len(live) == 0 {
			return
		}
		e := oneOf(d, live)
		switch d.roll(5) {
		case 0:
			g.World, _ = impl.Kill(r, g.World, e)
		case 1:
			g.World, _ = impl.Drop(r, g.World, e, comp)
		case 2:
			g.World, _ = impl.Put(r, g.World, e, comp, anyOf(d, r.Comps[comp].Kind))
		default:
			g.World, _ = impl.Set(r, g.World, e, comp, anyOf(d, r.Comps[comp].Kind))
		}
	}
}

// Any two games: each system strays, or does not, as the plain answer has it.
func TestAnyStrays(t *testing.T) {
	w := newAuthor(239)
	d := &w.dice
	met := map[bool]int{}
	for range 250 {
		s := anySideShow(w)
		g := anyGame(d, s)
		after := cloneGame(g)
		for range 1 + d.roll(3) {
			turnGame(d, s.Reg, &after)
		}
		for system := range s.Systems {
			want := plainStray(s, g, after, system)
			met[want]++
			strayIs(t, "by chance", s, g, after, system, want)
			strayIs(t, "by chance, back", s, after, g, system, want)
		}
		if t.Failed() {
			return
		}
	}
	if met[true] < 700 || met[false] < 200 {
		t.Error("hardly any:", met)
	}
}
