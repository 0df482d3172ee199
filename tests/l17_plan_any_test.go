package tests

import (
	"slices"
	"strings"
	"testing"

	"loop.example/g00070/impl"
)

// side is what a rule may name, with the first and the last place of those that
// it means, in an order that is hidden.
type side struct {
	name        string
	first, last int
}

// anyPlanned is a right schedule by chance. Its rules go along a hidden order;
// wild is how often, of a hundred, one does not.
func anyPlanned(d *dice, wild int) impl.Sched {
	hidden := newAuthor(d.roll(100000)).shuffled(schedNames[:impl.MaxSys])[:d.roll(impl.MaxSys+1)]
	bodies := bodyNames()[d.roll(12):]
	cut, quiet := d.roll(len(hidden)+1), d.roll(4)
	var words []string
	var sides []side
	for at, name := range hidden {
		body := ""
		if d.roll(4) >= quiet {
			body = oneOf(d, bodies)
		}
		sets := anySets(d, at < cut)
		for _, set := range append(sets, name) {
			i := slices.IndexFunc(sides, func(s side) bool { return s.name == set })
			if i < 0 {
				i, sides = len(sides), append(sides, side{set, at, at})
			}
			sides[i].last = at
		}
		words = append(words, name+":"+body+":"+strings.Join(sets, ","))
	}
	if d.roll(2) == 0 {
		slices.Sort(words)
	}
	s := planOf(strings.Join(words, " "), "")
	for i := range s.Systems {
		anyGate(d, &s.Systems[i])
	}
	for range d.roll(3*len(sides)+1) / (1 + d.roll(3)) {
		before, after := oneOf(d, sides), oneOf(d, sides)
		if after.last < before.first && d.roll(100) >= wild {
			before, after = after, before
		}
		if len(s.Rules) < impl.MaxRules && (before.last < after.first || d.roll(100) < wild) {
			s.Rules = append(s.Rules, impl.Rule{Before: before.name, After: after.name})
		}
	}
	return s
}

func anySets(d *dice, early bool) []string {
	var sets []string
	if d.roll(2) == 0 {
		sets = append(sets, map[bool]string{true: "Early", false: "Late"}[early])
	}
	if d.roll(3) == 0 {
		sets = append(sets, "Any")
	}
	return sets
}

// planIsPlain holds what MakePlan and Unordered tell against the plain answers,
// and tells the code.
func planIsPlain(t *testing.T, s impl.Sched) int {
	t.Helper()
	code, at := plainRefusal(s)
	if code == impl.SchDone {
		planDone(t, s)
	} else {
		planRefused(t, "by chance", s, code, at)
	}
	if got, want := pairsText(impl.Unordered(s)), pairsText(plainUnordered(s)); got != want {
		t.Fatalf("Unordered: %q, not %q: %s", got, want, schedLine(s))
	}
	return code
}

func TestAnyPlansHeldAgainstAPlainAnswer(t *testing.T) {
	d := dice(171)
	met, stages, edges := map[int]int{}, map[int]int{}, 0
	for range 1000 {
		s := anyPlanned(&d, d.roll(40))
		s.Strict = d.roll(4) == 0
		met[planIsPlain(t, s)]++
		if t.Failed() {
			return
		}
		p, _, _ := impl.MakePlan(s)
		stages[impl.Stages(p)]++
		edges += len(p.Edges)
	}
	if met[impl.SchDone] < 300 || met[impl.SchCircle] < 50 || met[impl.SchClash] < 50 || stages[1] < 50 || stages[2] < 50 || stages[3] < 30 || stages[4] < 5 || edges < 1000 {
		t.Error("hardly any:", met, stages, edges)
	}
}

// Schedules with many rules of sets, most of which have a circle or too many
// edges.
func TestAnyPlansOfFullSchedules(t *testing.T) {
	d := dice(172)
	met := map[int]int{}
	for range 400 {
		s := anySched(&d)
		if d.roll(4) == 0 {
			for i := range s.Systems {
				s.Systems[i].Sets = []string{"All"}
			}
			s.Rules = nil
			if len(s.Systems) > 0 {
				s.Rules = []impl.Rule{{Before: "All", After: "All"}}
			}
		}
		met[planIsPlain(t, s)]++
		if t.Failed() {
			return
		}
	}
	if met[impl.SchDone] < 50 || met[impl.SchCircle] < 50 || met[impl.SchRule] < 5 {
		t.Error("hardly any:", met)
	}
}

// One fault, or several at once: what SchedOk tells is told, and no plan.
func TestAnyFaultsOfPlans(t *testing.T) {
	d := dice(173)
	met := map[int]int{}
	for i := range 1200 {
		s := anyPlanned(&d, 3)
		for range 1 + i%3 {
			oneOf(&d, schedFaults)(&d, &s)
		}
		met[planIsPlain(t, s)]++
		if t.Failed() {
			return
		}
	}
	for code := impl.SchReg; code <= impl.SchRule; code++ {
		if met[code] < 15 {
			t.Error("code", code, "is met", met[code], "times")
		}
	}
}

// Systems of texts by chance, with rules along the order of the text.
func TestAnyPlansOfTexts(t *testing.T) {
	w := newAuthor(174)
	systems, pairs := 0, 0
	for range 200 {
		x := treeOf(w.text(9, 1)...)
		text, ok := impl.Print(x)
		if _, code, _ := impl.Parse(text); !ok || code != impl.ParDone {
			continue
		}
		s := impl.Sched{Reg: checkReg(), Text: text}
		for _, top := range x.Tops {
			if x.Nodes[top].Kind != impl.NSystem {
				continue
			}
			for _, ahead := range s.Systems {
				if w.roll(3) == 0 {
					s.Rules = append(s.Rules, impl.Rule{Before: ahead.Name, After: x.Nodes[top].Text})
				}
			}
			s.Systems = append(s.Systems, impl.Sys{Name: x.Nodes[top].Text})
		}
		planDone(t, s)
		systems += len(s.Systems)
		pairs += len(impl.Unordered(s))
	}
	if systems < 200 || pairs < 50 {
		t.Error("hardly any:", systems, pairs)
	}
}

// Rules in another order, sets written out, and rules that follow from others
// leave the plan as it is.
func TestAnyPlansByOtherRules(t *testing.T) {
	d := dice(175)
	tried := 0
	for range 300 {
		s := anyPlanned(&d, 0)
		want, edges := planDone(t, s), impl.Constraints(s)
		turned := turnedBy(s, func(s *impl.Sched) { slices.Reverse(s.Rules) })
		written := turnedBy(s, func(s *impl.Sched) {
			s.Rules = nil
			for _, e := range edges {
				s.Rules = append(s.Rules, impl.Rule{Before: s.Systems[e.From].Name, After: s.Systems[e.To].Name})
			}
		})
		more := turnedBy(s, func(s *impl.Sched) {
			for range 5 {
				if n := len(s.Systems); n > 0 && len(s.Rules) < impl.MaxRules {
					if a, b := d.roll(n), d.roll(n); a == b || impl.Ahead(n, edges, a, b) {
						s.Rules = append(s.Rules, impl.Rule{Before: s.Systems[a].Name, After: s.Systems[b].Name})
					}
				}
			}
		})
		for _, q := range []impl.Sched{turned, written, more} {
			if len(q.Rules) > impl.MaxRules {
				continue
			}
			tried++
			p, code, _ := impl.MakePlan(q)
			if code != impl.SchDone || !impl.PlanSame(p, want) {
				t.Fatalf("%d %q, not %q: %s", code, planText(p), planText(want), schedLine(q))
			}
		}
	}
	if tried < 500 {
		t.Error("hardly any:", tried)
	}
}

// A strict schedule that is refused names two that clash; with a rule between
// these, and so on, it comes to a plan.
func TestAnyStrictSchedulesComeToAPlan(t *testing.T) {
	d := dice(176)
	refused, done := 0, 0
	for range 150 {
		s := strictly(anyPlanned(&d, 0))
		for {
			p, code, at := impl.MakePlan(s)
			if code == impl.SchDone {
				planKeeps(t, s, p)
				done++
				break
			}
			pairs := impl.Unordered(s)
			if code != impl.SchClash || len(pairs) == 0 || pairs[0].A != at {
				t.Fatal(code, at, pairsText(pairs), schedLine(s))
			}
			effects := plainEffects(s)
			if first := pairs[0]; !slices.Contains(plainStrictly(effects[first.A], effects[first.B], len(s.Reg.Comps)), first.Clash) {
				t.Fatal("no clash:", pairsText(pairs), schedLine(s))
			}
			refused++
			if len(s.Rules) == impl.MaxRules {
				break
			}
			s = turnedBy(s, func(s *impl.Sched) {
				s.Rules = append(s.Rules, impl.Rule{Before: s.Systems[at].Name, After: s.Systems[pairs[0].B].Name})
			})
		}
	}
	if refused < 300 || done < 75 {
		t.Error("hardly any:", refused, done)
	}
}
