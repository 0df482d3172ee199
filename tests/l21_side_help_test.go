package tests

import (
	"fmt"
	"slices"
	"strings"
	"testing"

	"loop.example/g00070/impl"
)

// shift is who runs in a stage, in the plan's Order, and who of these waits for
// whom, by their places in the list.
type shift struct {
	systems []int
	edges   []impl.Edge
}

// play is a frame that is not refused, with all that it is held against.
type play struct {
	s          impl.Sched
	g          impl.Game
	tick, fuel int
	plan       impl.Plan
	shifts     []shift
	one        impl.Frame // as FrameOne tells it
}

// playOf puts the stages together by the tests' own plan and times.
func playOf(t *testing.T, s impl.Sched, g impl.Game, tick, fuel int) play {
	t.Helper()
	one, code, at := impl.FrameOne(s, g, tick, fuel)
	if code != impl.SchDone || at != 0 {
		t.Fatalf("FrameOne: %d %d\n%s", code, at, schedWhole(s))
	}
	p := plainPlan(s)
	times, _ := plainTimes(s, g.World, g.Clocks, tick)
	waits := graph{len(s.Systems), p.Edges}
	a := play{s: s, g: g, tick: tick, fuel: fuel, plan: p, one: one}
	for stage := range len(one.Codes) {
		var now shift
		for _, system := range p.Order {
			if p.Stage[system] == stage && times[system] > 0 {
				now.systems = append(now.systems, system)
			}
		}
		for i, from := range now.systems {
			behind := waits.plainBehind(from)
			for j, to := range now.systems {
				if slices.Contains(behind, to) {
					now.edges = append(now.edges, impl.Edge{From: i, To: j})
				}
			}
		}
		a.shifts = append(a.shifts, now)
	}
	return a
}

// moves is what the stages' runs come to, by the tests' own pools and by
// PoolRun; picks that one stage has taken are gone for the next one.
func (a play) moves(t *testing.T, workers int, picks []int) [][]impl.Move {
	t.Helper()
	var all [][]impl.Move
	for _, now := range a.shifts {
		h := hall{graph{len(now.systems), now.edges}, workers}
		list := h.plainRun(picks)
		if run, ok := impl.PoolRun(h.n, h.edges, workers, picks); !ok || !slices.Equal(run, list) {
			t.Fatalf("PoolRun is %s, not %s: %v", movesText(run), movesText(list), h)
		}
		picks = picks[min(len(list), len(picks)):]
		for i, m := range list {
			list[i].Task = now.systems[m.Task]
		}
		all = append(all, list)
	}
	return all
}

func sameMoves(a, b [][]impl.Move) bool { return slices.EqualFunc(a, b, slices.Equal) }

// stagesText tells moves of stages as "+0 -0 | | +1 -1".
func stagesText(all [][]impl.Move) string {
	var words []string
	for _, list := range all {
		words = append(words, movesText(list))
	}
	return strings.Join(words, " | ")
}

func (a play) String() string {
	return fmt.Sprintf("tick %d, fuel %d, plan %s\n%s\n%s", a.tick, a.fuel, planText(a.plan), gameText(a.g), schedWhole(a.s))
}

// side asks for the frame of FrameOne, and for the moves.
func (a play) side(t *testing.T, workers int, picks []int) [][]impl.Move {
	t.Helper()
	was, sched, chosen := cloneGame(a.g), cloneSched(a.s), slices.Clone(picks)
	f, moves, code, at := impl.FrameSide(a.s, a.g, a.tick, a.fuel, workers, picks)
	if code != impl.SchDone || at != 0 {
		t.Fatalf("FrameSide, %d workers, picks %v: %d %d\n%v", workers, firstPicks(picks), code, at, a)
	}
	if !sameGame(a.g, was) || schedLine(a.s) != schedLine(sched) || !slices.Equal(picks, chosen) {
		t.Fatalf("FrameSide has written into an argument\n%v", a)
	}
	if want := a.moves(t, workers, picks); !sameMoves(moves, want) {
		t.Fatalf("FrameSide, %d workers, picks %v: moves %s, not %s\n%v", workers, firstPicks(picks), stagesText(moves), stagesText(want), a)
	}
	if !sameFrame(f, a.one) {
		t.Fatalf("FrameSide, %d workers, moves %s:\nhave %s\nwant %s\n%v", workers, stagesText(moves), frameText(f), frameText(a.one), a)
	}
	return moves
}

func firstPicks(picks []int) []int { return picks[:min(len(picks), 40)] }

// sideIs asks for moves that are told by hand, too.
func (a play) sideIs(t *testing.T, workers int, picks []int, want string) {
	t.Helper()
	if got := stagesText(a.side(t, workers, picks)); got != want {
		t.Errorf("FrameSide, %d workers, picks %v: moves %q, not %q\n%v", workers, firstPicks(picks), got, want, a)
	}
}

// in asks for the frame of FrameOne by orders that are right.
func (a play) in(t *testing.T, orders [][]int) {
	t.Helper()
	if !a.ordersOk(orders) {
		t.Fatalf("no right orders: %v\n%v", orders, a)
	}
	was, sched, told := cloneGame(a.g), cloneSched(a.s), cloneLists(orders)
	f, code, at := impl.FrameIn(a.s, a.g, a.tick, a.fuel, orders)
	if code != impl.SchDone || at != 0 {
		t.Fatalf("FrameIn %v: %d %d\n%v", orders, code, at, a)
	}
	if !sameGame(a.g, was) || schedLine(a.s) != schedLine(sched) || !sameCodes(orders, told) {
		t.Fatalf("FrameIn has written into an argument\n%v", a)
	}
	if !sameFrame(f, a.one) {
		t.Fatalf("FrameIn %v:\nhave %s\nwant %s\n%v", orders, frameText(f), frameText(a.one), a)
	}
}

// inRefused asks for the game handed back, as wrong orders have it.
func (a play) inRefused(t *testing.T, what string, orders [][]int) {
	t.Helper()
	if a.ordersOk(orders) {
		t.Errorf("%s: right orders: %v\n%v", what, orders, a)
	}
	frameInRefused(t, what, a.s, a.g, a.tick, a.fuel, orders, impl.SchMany, 3)
}

func frameInRefused(t *testing.T, what string, s impl.Sched, g impl.Game, tick, fuel int, orders [][]int, wantCode, wantAt int) {
	t.Helper()
	was := cloneGame(g)
	f, code, at := impl.FrameIn(s, g, tick, fuel, orders)
	if code != wantCode || at != wantAt || !sameFrame(f, impl.Frame{Game: was}) || !sameGame(g, was) {
		t.Errorf("%s: FrameIn, tick %d, fuel %d, %.200s: %d %d, not %d %d; handed back: %v\n%s", what, tick, fuel, fmt.Sprint(orders), code, at, wantCode, wantAt, sameGame(f.Game, was), schedWhole(s))
	}
}

func frameSideRefused(t *testing.T, what string, s impl.Sched, g impl.Game, tick, fuel, workers int, picks []int, wantCode, wantAt int) {
	t.Helper()
	was := cloneGame(g)
	f, moves, code, at := impl.FrameSide(s, g, tick, fuel, workers, picks)
	if code != wantCode || at != wantAt || len(moves) != 0 || !sameFrame(f, impl.Frame{Game: was}) || !sameGame(g, was) {
		t.Errorf("%s: FrameSide, tick %d, fuel %d, %d workers, %d picks: %d %d %s, not %d %d; handed back: %v\n%s", what, tick, fuel, workers, len(picks), code, at, stagesText(moves), wantCode, wantAt, sameGame(f.Game, was), schedWhole(s))
	}
}

func cloneLists(lists [][]int) [][]int {
	var all [][]int
	for _, list := range lists {
		all = append(all, slices.Clone(list))
	}
	return all
}

// stages is all systems of each stage, in the plan's Order.
func (a play) stages() [][]int {
	all := make([][]int, len(a.shifts))
	for _, system := range a.plan.Order {
		all[a.plan.Stage[system]] = append(all[a.plan.Stage[system]], system)
	}
	return all
}

// ordersOk is asked word by word as the document has it.
func (a play) ordersOk(orders [][]int) bool {
	all := a.stages()
	if len(orders) != len(all) {
		return false
	}
	for stage, order := range orders {
		if len(order) > impl.MaxSys || !slices.Equal(slices.Sorted(slices.Values(order)), slices.Sorted(slices.Values(all[stage]))) {
			return false
		}
		for _, e := range a.plan.Edges {
			from, to := slices.Index(order, e.From), slices.Index(order, e.To)
			if from >= 0 && to >= 0 && from > to {
				return false
			}
		}
	}
	return true
}

// anyOrders is right orders by chance.
func (a play) anyOrders(d *dice) [][]int {
	var orders [][]int
	for _, left := range a.stages() {
		var order []int
		left = slices.Clone(left)
		for len(left) > 0 {
			var ready []int
			for _, system := range left {
				if !slices.ContainsFunc(a.plan.Edges, func(e impl.Edge) bool { return e.To == system && slices.Contains(left, e.From) }) {
					ready = append(ready, system)
				}
			}
			next := oneOf(d, ready)
			order = append(order, next)
			left = slices.DeleteFunc(left, func(system int) bool { return system == next })
		}
		orders = append(orders, order)
	}
	return orders
}

// inAll tries each list of a small stage's systems there is, beside the plan's
// own lists of all other stages; it tells how many are right.
func (a play) inAll(t *testing.T, stage int) int {
	t.Helper()
	count := 0
	own := a.stages()[stage]
	for _, places := range arrangements(len(own)) {
		orders := a.stages()
		for i, place := range places {
			orders[stage][i] = own[place]
		}
		if a.ordersOk(orders) {
			count++
			a.in(t, orders)
		} else {
			a.inRefused(t, "another order", orders)
		}
	}
	return count
}

// manySides plays the frame by 1 worker, by 2, by some and by as many as there
// may be, each by several picks.
func (a play) manySides(t *testing.T, d *dice) {
	t.Helper()
	for _, workers := range []int{1, 2, 3, impl.MaxWorkers} {
		a.side(t, workers, nil)
		for _, pick := range []int{1, -1, 2} {
			a.side(t, workers, slices.Repeat([]int{pick}, 2*impl.MaxSys))
		}
		a.side(t, workers, anyPicks(d, 40))
	}
}

// plainStray asks value by value what the document asks.
func plainStray(s impl.Sched, before, after impl.Game, system int) bool {
	e := plainEffects(s)[system]
	for comp := range s.Reg.Comps {
		for _, thing := range impl.EntList(before.World.Ents) {
			old, has := valueIn(before.World, thing, comp)
			now, had := valueIn(after.World, thing, comp)
			if has && had && !same(old, now) && !slices.Contains(e.Write, comp) {
				return true
			}
		}
	}
	for i, v := range before.World.Res {
		if !same(v, after.World.Res[i]) && !slices.Contains(e.WriteRes, i) {
			return true
		}
	}
	for i, one := range before.Streams {
		if !sameVals(one.New, after.Streams[i].New) && !slices.Contains(e.Send, i) {
			return true
		}
		for who, cursors := range before.Cursors {
			if cursors[i] != after.Cursors[who][i] && (who != system || !slices.Contains(e.Hear, i)) {
				return true
			}
		}
	}
	return false
}

// valueIn is what a thing of a right world has in a column.
func valueIn(w impl.World, e impl.Ent, comp int) (impl.Val, bool) {
	for _, one := range w.Tables {
		row, col := slices.Index(one.Rows, e), slices.Index(one.Cols, comp)
		if row >= 0 && col >= 0 {
			return one.Cells[col][row], true
		}
	}
	return impl.Val{}, false
}

// strayIs asks for an answer of two right games, and holds it against the plain
// one.
func strayIs(t *testing.T, what string, s impl.Sched, before, after impl.Game, system int, want bool) {
	t.Helper()
	if !impl.GameOk(s, before) || !impl.GameOk(s, after) {
		t.Fatalf("%s: not right: %v %v\n%s", what, impl.GameOk(s, before), impl.GameOk(s, after), schedWhole(s))
	}
	if plain := plainStray(s, before, after, system); plain != want {
		t.Errorf("%s: the plain answer is %v, not %v\n%s", what, plain, want, schedWhole(s))
	}
	was, then := cloneGame(before), cloneGame(after)
	if got := impl.Stray(s, before, after, system); got != want {
		t.Errorf("%s: Stray of %d is %v\n%s\n%s\n%s", what, system, got, gameText(before), gameText(after), schedWhole(s))
	}
	if !sameGame(before, was) || !sameGame(after, then) {
		t.Errorf("%s: Stray has written into an argument", what)
	}
}

// noStray asks for false of arguments that are not right, either way about.
func noStray(t *testing.T, what string, s impl.Sched, before, after impl.Game, system int) {
	t.Helper()
	was, then := cloneGame(before), cloneGame(after)
	if impl.Stray(s, before, after, system) || impl.Stray(s, after, before, system) || !sameGame(before, was) || !sameGame(after, then) {
		t.Errorf("%s: Stray of %d\n%s", what, system, schedWhole(s))
	}
}
