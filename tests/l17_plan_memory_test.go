package tests

import (
	"slices"
	"testing"

	"loop.example/g00070/impl"
)

func sameEffMemory(a, b impl.Effect) bool {
	for i, list := range effLists(&a) {
		if !sameMemory(*list, *effLists(&b)[i]) {
			return false
		}
	}
	return a.Spawns == b.Spawns && a.Kills == b.Kills
}

// roomyPlan has room ahead of each list and behind it, full of what a plan might
// take for its own.
func (g *guards) roomyPlan(p impl.Plan) impl.Plan {
	effects := slices.Clone(p.Effects)
	for i := range effects {
		effects[i] = g.roomyEff(effects[i])
	}
	return impl.Plan{
		Stage:   guardIn(g, p.Stage, 9, sameInt),
		Order:   guardIn(g, p.Order, 0, sameInt),
		Edges:   guardIn(g, p.Edges, impl.Edge{From: 0, To: 1}, sameEdge),
		Effects: guardIn(g, effects, effOf("Read 0 Kills"), sameEffMemory),
	}
}

// plan writes over the lists within effects ahead of the list that has these.
func (s *stamps) plan(p impl.Plan) {
	s.ints(p.Stage)
	s.ints(p.Order)
	s.edges(p.Edges)
	for _, e := range p.Effects {
		s.effect(e)
	}
	stamp(s, p.Effects, func(n int) impl.Effect { return impl.Effect{Read: []int{n}} }, func(e impl.Effect) int { return firstOf(e.Read) })
}

func (s *stamps) pairs(list []impl.Pair) {
	stamp(s, list, func(n int) impl.Pair { return impl.Pair{A: -1, B: n} }, func(p impl.Pair) int { return p.B })
}

func memoryPlans() []impl.Sched {
	list := []impl.Sched{
		{}, planOf("a:heal", ""), planOf("a:heal b:look c:make", ""), planOf("a:heal:One b:look:One c:make:One,Two", "c>One"), strictly(planOf("a:heal b:look", "")),
		planOf(allDo(16, "all"), chainOf(schedNames[:16]...)), planOf(allDo(16, "all"), ""), planOf("a b", "a>b b>a"), schedOf(inSets(16, "One"), "One>One"), {Text: "system"}, {Reg: wrongRegs()[0]},
	}
	d := dice(177)
	for i := range 60 {
		s := anyPlanned(&d, 5)
		s.Strict = i%5 == 0
		list = append(list, s)
		if i%3 == 0 {
			marred := cloneSched(s)
			oneOf(&d, schedFaults)(&d, &marred)
			list = append(list, marred)
		}
	}
	return list
}

// The schedule, with room ahead of each of its lists and behind it, is as it was
// behind each call; and whatever is written into one answer, the argument and
// the next answer are as before.
func TestPlansLeaveTheScheduleAlone(t *testing.T) {
	for _, s := range memoryPlans() {
		p, wantCode, wantAt := impl.MakePlan(s)
		want, wantPairs := wholePlanText(p), pairsText(impl.Unordered(s))
		var all guards
		var marks stamps
		roomy := all.roomySched(s)
		for range 3 {
			p, code, at := impl.MakePlan(roomy)
			if wholePlanText(p) != want || code != wantCode || at != wantAt || !all.kept() {
				t.Fatal("MakePlan", wholePlanText(p), code, at, all.kept(), schedLine(s))
			}
			pairs := impl.Unordered(roomy)
			if pairsText(pairs) != wantPairs || !all.kept() {
				t.Fatal("Unordered", pairsText(pairs), all.kept(), schedLine(s))
			}
			marks.plan(p)
			marks.pairs(pairs)
			if !all.kept() {
				t.Fatal("an answer shares memory with the argument:", schedLine(s))
			}
		}
		if !marks.kept() {
			t.Fatal("two lists of answers share memory:", schedLine(s))
		}
	}
}

// Both plans, with room ahead of each list and behind it, are as they were.
func TestPlanSameLeavesThePlansAlone(t *testing.T) {
	list := []impl.Plan{{}, fullPlan(), {Stage: []int{2}}, {Effects: make([]impl.Effect, 2)}}
	d := dice(178)
	for range 30 {
		list = append(list, anyPlan(&d))
	}
	for _, s := range memoryPlans()[:20] {
		p, _, _ := impl.MakePlan(s)
		list = append(list, p)
	}
	for i, a := range list {
		for j, b := range list {
			want := wholePlanText(a) == wholePlanText(b)
			var g guards
			roomyA, roomyB := g.roomyPlan(a), g.roomyPlan(b)
			for range 2 {
				if impl.PlanSame(roomyA, roomyB) != want || impl.Stages(roomyA) != impl.Stages(a) {
					t.Fatal("spare room is looked at:", i, j)
				}
			}
			if !g.kept() {
				t.Fatal("an argument was written into:", i, j)
			}
		}
	}
}

// Lists of one argument, or of both, may lie in one memory.
func TestPlansThatShareInTheArguments(t *testing.T) {
	nums := []int{0, 1, 2, 0, 1, 2}
	e := impl.Effect{Read: nums, Write: nums[1:], Add: nums[:2]}
	a := impl.Plan{Stage: nums[:3], Order: nums[:3], Effects: []impl.Effect{e, e}}
	b := impl.Plan{Stage: nums[3:], Order: nums[:3], Effects: []impl.Effect{e, e}}
	if !impl.PlanSame(a, b) || impl.Stages(a) != 3 {
		t.Error("plans that share:", planText(a), planText(b))
	}
	b.Order = nums[1:4]
	if impl.PlanSame(a, b) || !slices.Equal(nums, []int{0, 1, 2, 0, 1, 2}) {
		t.Error("plans that share:", planText(a), planText(b))
	}
	sets := []string{"One", "Two", "Three"}
	s := planOf("a:make b:look c:heal d:look", "")
	s.Systems[0].Sets, s.Systems[1].Sets, s.Systems[2].Sets = sets, sets[1:2], sets[:0]
	s.Rules = []impl.Rule{{Before: "One", After: "Two"}, {Before: "Three", After: "c"}}
	planIs(t, s, "0 1 1 0 | 0 3 1 2 | 1>2")
	if !slices.Equal(sets, []string{"One", "Two", "Three"}) {
		t.Error("an argument was written into:", sets)
	}
}

// Nothing is kept: another schedule between two calls changes nothing.
func TestPlansOneBehindTheOther(t *testing.T) {
	first, second, third := planOf("a:heal b:look c:make", "c>a"), planOf("c:make b:heal a:look", "a>b"), planOf("a b", "a>b b>a")
	for range 10 {
		planIs(t, first, "1 0 0 | 1 2 0 | ")
		planRefused(t, "a circle", third, impl.SchCircle, 0)
		planIs(t, second, "0 0 0 | 0 2 1 | 2>1")
		unorderedIs(t, first, "0 1 comp 0, 1 2 cmd 0")
		unorderedIs(t, second, "0 1 cmd 0, 0 2 cmd 0")
		p, _, _ := impl.MakePlan(first)
		scribble(p.Order, 7)
		scribble(p.Effects, effOf("Kills"))
	}
}
