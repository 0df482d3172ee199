package tests

import (
	"fmt"
	"slices"
	"strings"
	"testing"

	"loop.example/g00070/impl"
)

func TestPlansWithWrongRegs(t *testing.T) {
	for i, r := range wrongRegs() {
		if i%3 != 0 {
			continue
		}
		s := planOf("a:heal:One b:look", "One>b")
		s.Reg, s.Strict = r, i%2 == 0
		planRefused(t, "a wrong Reg", s, impl.SchReg, 0)
	}
	s := planOf("a:heal b:look", "a>b")
	s.Reg = impl.Reg{}
	planRefused(t, "a Reg without the names", s, impl.SchCheck, parsedRefusal(t, s))
}

// parsedRefusal is the node that Check refuses.
func parsedRefusal(t *testing.T, s impl.Sched) int {
	t.Helper()
	code, node := impl.Check(s.Reg, parsedTree(t, s.Text))
	if code == impl.ChkDone {
		t.Fatal("right:", s.Text)
	}
	return node
}

func TestPlansWithWrongTexts(t *testing.T) {
	whole := planOf("a:heal:One b:look", "One>b")
	for cut := range len(whole.Text) {
		s := turnedBy(whole, func(s *impl.Sched) { s.Text = s.Text[:cut] })
		code, at := plainSchedOk(s)
		if code != impl.SchDone {
			planRefused(t, "a cut text", s, code, at)
		}
	}
	for text, at := range map[string]int{"system a {": 10, "}": 0, "system a { } x": 13, "  ?": 2, strings.Repeat(" ", impl.MaxText+1): 0} {
		planRefused(t, "a wrong text", turnedBy(whole, func(s *impl.Sched) { s.Text = text }), impl.SchText, at)
	}
	for _, more := range []string{"system a { }", "fn more() int { return 1; }", "system z { $Nobody = 1; }", "system z { kill; }", "fn f() int { }", "system z { do f(); } fn f() int { return 1; }"} {
		s := turnedBy(whole, func(s *impl.Sched) { s.Text += more })
		planRefused(t, "a tree that is not checked", s, impl.SchCheck, parsedRefusal(t, s))
	}
}

func TestPlansWithWrongSystems(t *testing.T) {
	base := planOf("a:heal:One b:look:One c:make", "One>c")
	for at := range 3 {
		for _, name := range []string{"", "more", "born", "nobody", "One", "Hp", "A", "\xff", strings.Repeat("a", 1000), base.Systems[(at+2)%3].Name} {
			s := turnedBy(base, func(s *impl.Sched) { s.Systems[at].Name, s.Rules = name, nil })
			code, number := plainSchedOk(s)
			if code != impl.SchSystem {
				t.Fatal("not the fault that was meant:", code, name)
			}
			planRefused(t, "a wrong name", s, code, number)
		}
		for _, set := range []string{"", "a", "c", "more", "let", "x1", "abcdefghijklm", "\xff"} {
			planRefused(t, "a wrong set", turnedBy(base, func(s *impl.Sched) { s.Systems[at].Sets = []string{"One", set} }), impl.SchSet, at)
		}
		planRefused(t, "a set twice", turnedBy(base, func(s *impl.Sched) { s.Systems[at].Sets = []string{"One", "Two", "One"} }), impl.SchSet, at)
		planRefused(t, "one set more", turnedBy(base, func(s *impl.Sched) { s.Systems[at].Sets = strings.Fields("One S T U V") }), impl.SchSet, at)
		for _, turn := range []func(y *impl.Sys){
			func(y *impl.Sys) { y.When = "Score" },
			func(y *impl.Sys) { y.When = "nobody" },
			func(y *impl.Sys) { y.Every = -1 },
			func(y *impl.Sys) { y.Every = impl.MaxEvery + 1 },
			func(y *impl.Sys) { y.Gate = 4 },
			func(y *impl.Sys) { y.Gate = leastInt },
			func(y *impl.Sys) { y.Phase = 1 },
		} {
			planRefused(t, "a wrong gate", turnedBy(base, func(s *impl.Sched) { turn(&s.Systems[at]) }), impl.SchGate, at)
		}
	}
	planRefused(t, "many systems", impl.Sched{Systems: make([]impl.Sys, 5000)}, impl.SchMany, 0)
	planRefused(t, "one system of nobody", impl.Sched{Systems: make([]impl.Sys, 1)}, impl.SchSystem, 0)
}

func TestPlansWithWrongRules(t *testing.T) {
	base := planOf("a:heal:One b:look:One c:make", "One>c a>b b>c")
	for at := range 3 {
		for _, name := range []string{"", "more", "nobody", "Two", "one", "Hp", "a ", "\xff"} {
			planRefused(t, "a wrong Before", turnedBy(base, func(s *impl.Sched) { s.Rules[at].Before = name }), impl.SchRule, at)
			planRefused(t, "a wrong After", turnedBy(base, func(s *impl.Sched) { s.Rules[at].After = name }), impl.SchRule, at)
		}
	}
	many := turnedBy(base, func(s *impl.Sched) { s.Rules = slices.Repeat(s.Rules[:1], impl.MaxRules) })
	planDone(t, many)
	many.Rules = append(many.Rules, many.Rules[0])
	planRefused(t, "one rule more", many, impl.SchMany, 0)
	planRefused(t, "rules of nobody", impl.Sched{Rules: make([]impl.Rule, 1)}, impl.SchRule, 0)
}

// fullPlan has a number in each list of each field, all of them different from
// their neighbours.
func fullPlan() impl.Plan {
	var one, two impl.Effect
	for i, list := range effLists(&one) {
		*list = []int{i, i + 3}
		*effLists(&two)[i] = []int{2 * i}
	}
	one.Spawns, two.Kills = true, true
	return impl.Plan{Stage: []int{0, 2, 1}, Order: []int{2, 0, 1}, Edges: edgesOf("0>1 2>0"), Effects: []impl.Effect{one, two}}
}

func clonePlan(p impl.Plan) impl.Plan {
	q := impl.Plan{Stage: slices.Clone(p.Stage), Order: slices.Clone(p.Order), Edges: slices.Clone(p.Edges)}
	for _, e := range p.Effects {
		q.Effects = append(q.Effects, cloneEff(e))
	}
	return q
}

// planNumbers points at each number of a plan.
func planNumbers(p *impl.Plan) []*int {
	var all []*int
	lists := [][]int{p.Stage, p.Order}
	for i := range p.Effects {
		for _, list := range effLists(&p.Effects[i]) {
			lists = append(lists, *list)
		}
	}
	for _, list := range lists {
		for i := range list {
			all = append(all, &list[i])
		}
	}
	for i := range p.Edges {
		all = append(all, &p.Edges[i].From, &p.Edges[i].To)
	}
	return all
}

// planLists points at each list of numbers of a plan.
func planLists(p *impl.Plan) []*[]int {
	all := []*[]int{&p.Stage, &p.Order}
	for i := range p.Effects {
		all = append(all, effLists(&p.Effects[i])...)
	}
	return all
}

func plansAre(t *testing.T, what string, a, b impl.Plan, want bool) {
	t.Helper()
	if impl.PlanSame(a, b) != want || impl.PlanSame(b, a) != want {
		t.Errorf("%s: PlanSame is not %v: %.200s, %.200s", what, want, wholePlanText(a), wholePlanText(b))
	}
}

func TestPlanSameNumberByNumber(t *testing.T) {
	base := fullPlan()
	plansAre(t, "itself", base, base, true)
	plansAre(t, "a copy", base, clonePlan(base), true)
	for i := range planNumbers(&base) {
		for _, change := range []int{1, -1, 100, mostInt, leastInt} {
			other := clonePlan(base)
			*planNumbers(&other)[i] += change
			plansAre(t, fmt.Sprint("the number ", i), base, other, false)
			again := clonePlan(other)
			plansAre(t, fmt.Sprint("the number ", i), again, other, true)
		}
	}
	for i := range base.Effects {
		for _, turn := range []func(e *impl.Effect){func(e *impl.Effect) { e.Spawns = !e.Spawns }, func(e *impl.Effect) { e.Kills = !e.Kills }} {
			other := clonePlan(base)
			turn(&other.Effects[i])
			plansAre(t, "a flag", base, other, false)
		}
	}
}

func TestPlanSameListByList(t *testing.T) {
	base := fullPlan()
	for i := range planLists(&base) {
		for _, turn := range []func(list []int) []int{
			func(list []int) []int { return append(list, 0) },
			func(list []int) []int { return append(list, list[len(list)-1]) },
			func(list []int) []int { return list[:len(list)-1] },
			func(list []int) []int { return nil },
			func(list []int) []int { return append([]int{list[0] + 1}, list...) },
		} {
			other := clonePlan(base)
			list := planLists(&other)[i]
			*list = turn(*list)
			plansAre(t, fmt.Sprint("the list ", i), base, other, false)
		}
	}
	for _, turn := range []func(p *impl.Plan){
		func(p *impl.Plan) { p.Edges = p.Edges[:1] },
		func(p *impl.Plan) { p.Edges = nil },
		func(p *impl.Plan) { p.Edges = append(p.Edges, impl.Edge{}) },
		func(p *impl.Plan) { slices.Reverse(p.Edges) },
		func(p *impl.Plan) { p.Effects = p.Effects[:1] },
		func(p *impl.Plan) { p.Effects = nil },
		func(p *impl.Plan) { p.Effects = append(p.Effects, impl.Effect{}) },
		func(p *impl.Plan) { slices.Reverse(p.Effects) },
		func(p *impl.Plan) { slices.Reverse(p.Stage) },
		func(p *impl.Plan) { p.Stage, p.Order = p.Order, p.Stage },
		func(p *impl.Plan) { p.Effects[0].Read, p.Effects[0].Write = p.Effects[0].Write, p.Effects[0].Read },
	} {
		other := clonePlan(base)
		turn(&other)
		plansAre(t, "another list", base, other, false)
	}
}

// Nil and an empty list are one value, in each place.
func TestPlanSameOfEmptyLists(t *testing.T) {
	plansAre(t, "nothing", impl.Plan{}, impl.Plan{Stage: []int{}, Order: []int{}, Edges: []impl.Edge{}, Effects: []impl.Effect{}}, true)
	hollow := impl.Plan{Effects: make([]impl.Effect, 2)}
	for _, e := range []*impl.Effect{&hollow.Effects[0], &hollow.Effects[1]} {
		for _, list := range effLists(e) {
			*list = []int{}
		}
	}
	plansAre(t, "empty effects", hollow, impl.Plan{Effects: make([]impl.Effect, 2)}, true)
	plansAre(t, "fewer empty effects", hollow, impl.Plan{Effects: make([]impl.Effect, 1)}, false)
	plansAre(t, "no effects", hollow, impl.Plan{}, false)
	base := fullPlan()
	for i := range planLists(&base) {
		one, other := clonePlan(base), clonePlan(base)
		*planLists(&one)[i], *planLists(&other)[i] = nil, []int{}
		plansAre(t, "an empty list", one, other, true)
		plansAre(t, "an empty list", one, base, false)
	}
}

// anyPlan has any numbers in lists of any lengths, few enough that two of them
// are the same at times.
func anyPlan(d *dice) impl.Plan {
	var p impl.Plan
	some := func() []int {
		var list []int
		for range d.roll(3) {
			list = append(list, oneOf(d, []int{0, 0, 0, 1, -1, 15, 16, mostInt, leastInt}))
		}
		if list == nil && d.roll(2) == 0 {
			return []int{}
		}
		return list
	}
	p.Stage, p.Order = some(), some()
	for range d.roll(2) {
		p.Edges = append(p.Edges, impl.Edge{From: d.roll(2), To: -d.roll(2)})
	}
	for range d.roll(2) {
		var e impl.Effect
		*oneOf(d, effLists(&e)) = some()
		e.Spawns, e.Kills = d.roll(3) == 0, d.roll(3) == 0
		p.Effects = append(p.Effects, e)
	}
	return p
}

func TestAnyPlansAreTheSame(t *testing.T) {
	d := dice(170)
	alike := 0
	for range 20000 {
		a, b := anyPlan(&d), anyPlan(&d)
		if d.roll(3) == 0 {
			b = clonePlan(a)
			if numbers := planNumbers(&b); len(numbers) > 0 && d.roll(2) == 0 {
				*oneOf(&d, numbers) ^= d.roll(2)
			}
		}
		want := fmt.Sprint(a) == fmt.Sprint(b)
		plansAre(t, "by chance", a, b, want)
		if want {
			alike++
		}
		most := -1
		for _, stage := range a.Stage {
			most = max(most, stage)
		}
		if most > 15 {
			most = -1
		}
		if got := impl.Stages(a); got != most+1 {
			t.Errorf("Stages of %v: %d, not %d", a.Stage, got, most+1)
		}
		if t.Failed() {
			return
		}
	}
	if alike < 2000 || alike > 18000 {
		t.Error("too few of one kind:", alike)
	}
}
