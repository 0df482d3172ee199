package tests

import (
	"fmt"
	"slices"
	"strings"
	"testing"

	"loop.example/g00070/impl"
)

// schedNames are the systems of schedText in their order, one more than a
// schedule may have.
var schedNames = strings.Fields("a b c d e f g h i j k l m n o p q")

// schedFns are the functions of schedText.
var schedFns = []string{"calc", "Blend"}

var schedGates = []int{impl.GateAlways, impl.GateIn, impl.GateEnter, impl.GateLeave}

// schedText has its functions ahead of the systems and behind them.
func schedText() string {
	var b strings.Builder
	b.WriteString("fn calc() int { return 1; }\n")
	for _, name := range schedNames {
		b.WriteString("system " + name + " { }\n")
	}
	b.WriteString("fn Blend(x real) real { return x * 0.5; }\n")
	return b.String()
}

// schedOf reads a schedule such as "a:One,Two b:One c", with the rules
// "One>c a>Two", by checkReg and schedText.
func schedOf(systems, rules string) impl.Sched {
	s := impl.Sched{Reg: checkReg(), Text: schedText()}
	for _, word := range strings.Fields(systems) {
		name, sets, in := strings.Cut(word, ":")
		system := impl.Sys{Name: name}
		if in {
			system.Sets = strings.Split(sets, ",")
		}
		s.Systems = append(s.Systems, system)
	}
	for _, word := range strings.Fields(rules) {
		before, after, _ := strings.Cut(word, ">")
		s.Rules = append(s.Rules, impl.Rule{Before: before, After: after})
	}
	return s
}

// inSets has the first n systems, each in all of the sets.
func inSets(n int, sets string) string {
	var words []string
	for _, name := range schedNames[:n] {
		words = append(words, name+":"+sets)
	}
	return strings.Join(words, " ")
}

func cloneSched(s impl.Sched) impl.Sched {
	s.Reg = cloneReg(s.Reg)
	s.Systems = slices.Clone(s.Systems)
	for i := range s.Systems {
		s.Systems[i].Sets = slices.Clone(s.Systems[i].Sets)
	}
	s.Rules = slices.Clone(s.Rules)
	return s
}

// turnedBy is a copy of a schedule with one change.
func turnedBy(s impl.Sched, turn func(s *impl.Sched)) impl.Sched {
	s = cloneSched(s)
	turn(&s)
	return s
}

func schedLine(s impl.Sched) string {
	return fmt.Sprintf("%.300s %.300s (%d systems, %d rules, text %.40q)", fmt.Sprint(s.Systems), fmt.Sprint(s.Rules), len(s.Systems), len(s.Rules), s.Text)
}

// someAsked is the names that Members is asked for: all that stand anywhere in
// a schedule, and some of nobody.
func someAsked(s impl.Sched) []string {
	names := []string{"", "a", "q", "calc", "Blend", "One", "Hp", "Score", "nobody", "let", "\xff"}
	for _, system := range s.Systems[:min(len(s.Systems), 20)] {
		names = append(names, system.Name, system.When)
		names = append(names, system.Sets[:min(len(system.Sets), 8)]...)
	}
	for _, rule := range s.Rules[:min(len(s.Rules), 50)] {
		names = append(names, rule.Before, rule.After)
	}
	slices.Sort(names)
	return slices.Compact(names)
}

// schedIs asks for a right schedule with these edges.
func schedIs(t *testing.T, systems, rules, want string) {
	t.Helper()
	s := schedOf(systems, rules)
	schedDone(t, s)
	if got := edgesText(impl.Constraints(s)); got != want {
		t.Errorf("Constraints of %q %q: %q, not %q", systems, rules, got, want)
	}
}

// schedDone asks for a right schedule, and holds what it tells against the
// plain answers.
func schedDone(t *testing.T, s impl.Sched) {
	t.Helper()
	if code, n := impl.SchedOk(s); code != impl.SchDone || n != 0 {
		t.Fatalf("SchedOk: %d %d: %s", code, n, schedLine(s))
	}
	for _, name := range someAsked(s) {
		if got, want := impl.Members(s, name), plainMembers(s, name); !slices.Equal(got, want) {
			t.Fatalf("Members of %q: %v, not %v: %s", name, got, want, schedLine(s))
		}
	}
	if got, want := edgesText(impl.Constraints(s)), edgesText(plainConstraints(s)); got != want {
		t.Fatalf("Constraints: %s, not %s: %s", got, want, schedLine(s))
	}
}

// schedRefused asks for a code and its number, and that nothing else is told.
func schedRefused(t *testing.T, what string, s impl.Sched, wantCode, wantAt int) {
	t.Helper()
	if code, at := impl.SchedOk(s); code != wantCode || at != wantAt {
		t.Errorf("%s: SchedOk %d %d, not %d %d: %s", what, code, at, wantCode, wantAt, schedLine(s))
	}
	for _, name := range someAsked(s) {
		if list := impl.Members(s, name); len(list) != 0 {
			t.Errorf("%s: Members of %q: %v: %s", what, name, list, schedLine(s))
		}
	}
	if list := impl.Constraints(s); len(list) != 0 {
		t.Errorf("%s: Constraints %v: %s", what, list, schedLine(s))
	}
}

// plainMembers is for a right schedule: all systems are asked, one by one.
func plainMembers(s impl.Sched, name string) []int {
	var list []int
	for i, system := range s.Systems {
		if system.Name == name || slices.Contains(system.Sets, name) {
			list = append(list, i)
		}
	}
	return list
}

// plainConstraints is for a right schedule: made of Members, as the document
// says it, and cut off where they are too many.
func plainConstraints(s impl.Sched) []impl.Edge {
	members := map[string][]int{}
	for _, rule := range s.Rules {
		for _, name := range []string{rule.Before, rule.After} {
			if _, ok := members[name]; !ok {
				members[name] = impl.Members(s, name)
			}
		}
	}
	var list []impl.Edge
	for _, rule := range s.Rules {
		for _, from := range members[rule.Before] {
			for _, to := range members[rule.After] {
				e := impl.Edge{From: from, To: to}
				if from != to && !slices.Contains(list, e) {
					list = append(list, e)
				}
			}
		}
	}
	if len(list) > impl.MaxEdges {
		return nil
	}
	return list
}

// plainSchedOk tells the first fault, asked one by one as the document has them.
func plainSchedOk(s impl.Sched) (int, int) {
	if !impl.RegOk(s.Reg) {
		return impl.SchReg, 0
	}
	x, code, at := impl.Parse(s.Text)
	if code != impl.ParDone {
		return impl.SchText, at
	}
	if code, node := impl.Check(s.Reg, x); code != impl.ChkDone {
		return impl.SchCheck, node
	}
	if len(s.Systems) > impl.MaxSys || len(s.Rules) > impl.MaxRules {
		return impl.SchMany, 0
	}
	for i, system := range s.Systems {
		switch {
		case plainSystemWrong(s, x, i):
			return impl.SchSystem, i
		case plainSetsWrong(x, system.Sets):
			return impl.SchSet, i
		case plainGateWrong(s.Reg, system):
			return impl.SchGate, i
		}
	}
	for i, rule := range s.Rules {
		if len(plainMembers(s, rule.Before)) == 0 || len(plainMembers(s, rule.After)) == 0 {
			return impl.SchRule, i
		}
	}
	return impl.SchDone, 0
}

func plainSystemWrong(s impl.Sched, x impl.Tree, i int) bool {
	name := s.Systems[i].Name
	top := impl.TopOf(x, name)
	return top < 0 || x.Nodes[top].Kind != impl.NSystem ||
		slices.ContainsFunc(s.Systems[:i], func(other impl.Sys) bool { return other.Name == name })
}

func plainSetsWrong(x impl.Tree, sets []string) bool {
	if len(sets) > impl.MaxSets {
		return true
	}
	for i, set := range sets {
		if !impl.NameOk(set) || impl.TopOf(x, set) >= 0 || slices.Index(sets, set) < i {
			return true
		}
	}
	return false
}

func plainGateWrong(r impl.Reg, system impl.Sys) bool {
	if system.When != "" && !slices.Contains(r.Ress, decl(system.When, impl.KBool)) {
		return true
	}
	if system.Every < 0 || system.Every > impl.MaxEvery || !slices.Contains(schedGates, system.Gate) {
		return true
	}
	if system.Gate == impl.GateAlways {
		return system.Phase != 0
	}
	return len(namesOf(r.Ress, impl.KInt)) == 0
}

// anySched is a right schedule by chance.
func anySched(d *dice) impl.Sched {
	s := impl.Sched{Reg: checkReg(), Text: schedText(), Strict: d.roll(2) == 0}
	names := slices.Clone(schedNames)
	sets := []string{"One", "Two", "All", "Hp", "Score", "abcdefghijkl"}[:1+d.roll(6)]
	var asked []string
	for range d.roll(impl.MaxSys + 1) {
		at := d.roll(len(names))
		system := impl.Sys{Name: names[at]}
		names = slices.Delete(names, at, at+1)
		for _, set := range sets {
			if len(system.Sets) < impl.MaxSets && d.roll(3) == 0 {
				system.Sets = append(system.Sets, set)
			}
		}
		anyGate(d, &system)
		s.Systems = append(s.Systems, system)
		asked = append(append(asked, system.Name), system.Sets...)
	}
	if len(asked) > 0 {
		for range d.roll(impl.MaxRules+1) / (1 + d.roll(8)) {
			s.Rules = append(s.Rules, impl.Rule{Before: oneOf(d, asked), After: oneOf(d, asked)})
		}
	}
	return s
}

func anyGate(d *dice, system *impl.Sys) {
	if d.roll(3) == 0 {
		system.When = "Over"
	}
	system.Every = []int{0, 0, 1, 7, impl.MaxEvery}[d.roll(5)]
	if d.roll(2) == 0 {
		system.Gate = oneOf(d, schedGates)
	}
	if system.Gate != impl.GateAlways {
		system.Phase = oneOf(d, []int{0, 1, -1, leastInt, mostInt})
	}
}
