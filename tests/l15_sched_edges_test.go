package tests

import (
	"slices"
	"strings"
	"testing"

	"loop.example/g00070/impl"
)

func TestSchedulesOfNothing(t *testing.T) {
	for _, s := range []impl.Sched{
		{},
		{Strict: true},
		{Systems: []impl.Sys{}, Rules: []impl.Rule{}},
		{Text: " \n# nothing\n"},
		{Reg: checkReg()},
		{Reg: checkReg(), Text: schedText()},
	} {
		schedDone(t, s)
		if list := impl.Constraints(s); len(list) != 0 {
			t.Error("Constraints of nothing:", list)
		}
	}
}

func TestMostSystems(t *testing.T) {
	for n := range impl.MaxSys + 1 {
		schedDone(t, schedOf(strings.Join(schedNames[:n], " "), ""))
		schedDone(t, schedOf(strings.Join(schedNames[len(schedNames)-n:], " "), ""))
	}
	all := strings.Join(schedNames, " ")
	schedRefused(t, "one system more", schedOf(all, ""), impl.SchMany, 0)
	schedRefused(t, "one system more", schedOf(all, "a>b"), impl.SchMany, 0)
	schedRefused(t, "one system more, twice the same", schedOf(strings.Join(schedNames[:16], " ")+" a", ""), impl.SchMany, 0)
	schedRefused(t, "many systems", impl.Sched{Systems: make([]impl.Sys, 5000)}, impl.SchMany, 0)
}

func TestMostRules(t *testing.T) {
	for _, n := range []int{1, impl.MaxRules - 1, impl.MaxRules} {
		s := schedOf("a:One b", strings.Repeat("a>b One>b ", 20))
		s.Rules = s.Rules[:n]
		schedDone(t, s)
		if got := edgesText(impl.Constraints(s)); got != "0>1" {
			t.Error(n, "rules:", got)
		}
	}
	schedRefused(t, "one rule more", schedOf("a b", strings.Repeat("a>b ", impl.MaxRules+1)), impl.SchMany, 0)
	schedRefused(t, "one rule more", impl.Sched{Rules: make([]impl.Rule, impl.MaxRules+1)}, impl.SchMany, 0)
	schedRefused(t, "many rules", impl.Sched{Rules: make([]impl.Rule, 5000)}, impl.SchMany, 0)
	both := schedOf(strings.Join(schedNames, " "), strings.Repeat("a>b ", impl.MaxRules+1))
	schedRefused(t, "one more of both", both, impl.SchMany, 0)
}

// The last rule of the most is as good as the first one.
func TestEachOfTheMostRulesCounts(t *testing.T) {
	for at := range impl.MaxRules {
		s := schedOf("a b c", strings.Repeat("a>b ", impl.MaxRules))
		s.Rules[at] = impl.Rule{Before: "c", After: "a"}
		schedDone(t, s)
		want := "0>1 2>0"
		if at == 0 {
			want = "2>0 0>1"
		}
		if got := edgesText(impl.Constraints(s)); got != want {
			t.Error("rule", at, got)
		}
	}
}

func TestMostSetsOfASystem(t *testing.T) {
	sets := []string{"S", "T", "U", "V", "W"}
	for n := range impl.MaxSets + 1 {
		for _, at := range []int{0, 7, impl.MaxSys - 1} {
			s := schedOf(strings.Join(schedNames[:impl.MaxSys], " "), "")
			s.Systems[at].Sets = slices.Clone(sets[:n])
			schedDone(t, s)
			for i, set := range sets {
				if got := impl.Members(s, set); i < n && !slices.Equal(got, []int{at}) || i >= n && len(got) != 0 {
					t.Error(n, "sets of", at, "Members of", set, got)
				}
			}
		}
	}
	for _, at := range []int{0, 7, impl.MaxSys - 1} {
		s := schedOf(strings.Join(schedNames[:impl.MaxSys], " "), "")
		s.Systems[at].Sets = sets
		schedRefused(t, "one set more", s, impl.SchSet, at)
	}
}

// All systems in four sets of their own each: as many sets as there can be.
func TestMostSetsOfAll(t *testing.T) {
	s := schedOf(strings.Join(schedNames[:impl.MaxSys], " "), "")
	for i := range s.Systems {
		for _, c := range "STUV" {
			s.Systems[i].Sets = append(s.Systems[i].Sets, strings.ToUpper(s.Systems[i].Name)+string(c))
		}
	}
	s.Rules = []impl.Rule{{Before: "AS", After: "PV"}, {Before: "PS", After: "BT"}, {Before: "CU", After: "d"}}
	schedDone(t, s)
	if got := edgesText(impl.Constraints(s)); got != "0>15 15>1 2>3" {
		t.Error("Constraints:", got)
	}
}

func TestNamesOfSets(t *testing.T) {
	for _, set := range []string{"A", "z", "abcdefghijkl", "ABCDEFGHIJKL", "Let", "systems", "Hp", "Score", "Over", "Hit", "aa", "Calc", "blend", "nobody"} {
		s := schedOf("a b", "")
		s.Systems[1].Sets = []string{set}
		s.Rules = []impl.Rule{{Before: set, After: "a"}}
		schedDone(t, s)
		if got := edgesText(impl.Constraints(s)); got != "1>0" {
			t.Errorf("set %q: %s", set, got)
		}
	}
}

// A set may not have the name of any top of the text, whether the top is in the
// list or not; a text without that top allows it.
func TestSetsWithNamesOfTheText(t *testing.T) {
	for _, set := range []string{"a", "b", "c", "q", "calc", "Blend"} {
		for at, system := range []string{"a", "b"} {
			s := schedOf("a b", "")
			s.Systems[at].Sets = []string{set}
			schedRefused(t, "a set of the text's name "+set+" at "+system, s, impl.SchSet, at)
			s.Systems[at].Sets = []string{"One", "Two", "Three", set}
			schedRefused(t, "a last set of the text's name "+set+" at "+system, s, impl.SchSet, at)
		}
	}
	s := schedOf("a:q b:calc,q", "q>a")
	s.Text = "system a { } system b { }"
	schedDone(t, s)
	if got := edgesText(impl.Constraints(s)); got != "1>0" {
		t.Error("Constraints:", got)
	}
}

// A system of the text that is not in the list is nobody.
func TestSystemsThatAreNotInTheList(t *testing.T) {
	s := schedOf("a b", "a>b")
	schedDone(t, s)
	for _, name := range schedNames[2:] {
		if got := impl.Members(s, name); len(got) != 0 {
			t.Error("Members of", name, got)
		}
		schedRefused(t, "a rule ahead of "+name, schedOf("a b", "a>b a>"+name), impl.SchRule, 1)
		schedRefused(t, "a rule behind "+name, schedOf("a b", "a>b "+name+">a"), impl.SchRule, 1)
	}
}

func TestEveryAtItsLimits(t *testing.T) {
	for _, every := range []int{0, 1, 2, impl.MaxEvery - 1, impl.MaxEvery} {
		schedDone(t, turnedBy(schedOf("a b", "a>b"), func(s *impl.Sched) { s.Systems[1].Every = every }))
	}
	for _, every := range []int{-1, -2, impl.MaxEvery + 1, leastInt, mostInt} {
		for at := range 2 {
			schedRefused(t, "every", turnedBy(schedOf("a b", "a>b"), func(s *impl.Sched) { s.Systems[at].Every = every }), impl.SchGate, at)
		}
	}
}

func TestGatesAndPhases(t *testing.T) {
	for _, gate := range schedGates {
		for _, phase := range []int{0, 1, -1, 7, leastInt, mostInt} {
			s := turnedBy(schedOf("a b", "a>b"), func(s *impl.Sched) { s.Systems[1].Gate, s.Systems[1].Phase = gate, phase })
			if gate == impl.GateAlways && phase != 0 {
				schedRefused(t, "a phase without a gate", s, impl.SchGate, 1)
			} else {
				schedDone(t, s)
			}
		}
	}
	for _, gate := range []int{-1, 4, 5, leastInt, mostInt} {
		for _, phase := range []int{0, 1, mostInt} {
			s := turnedBy(schedOf("a b", "a>b"), func(s *impl.Sched) { s.Systems[0].Gate, s.Systems[0].Phase = gate, phase })
			schedRefused(t, "no gate", s, impl.SchGate, 0)
		}
	}
}

// A gate needs a resource of the kind KInt; a column or a stream of that kind
// is none, and where one is among others it may stand anywhere.
func TestGatesByTheResources(t *testing.T) {
	for i, c := range []struct {
		ress []impl.Decl
		has  bool
	}{
		{nil, false},
		{[]impl.Decl{}, false},
		{[]impl.Decl{decl("Wind", impl.KReal), decl("Home", impl.KPair), decl("Over", impl.KBool)}, false},
		{[]impl.Decl{decl("Score", impl.KInt)}, true},
		{[]impl.Decl{decl("Wind", impl.KReal), decl("Home", impl.KPair), decl("Over", impl.KBool), decl("Score", impl.KInt)}, true},
		{[]impl.Decl{decl("Wind", impl.KReal), decl("Score", impl.KInt), decl("Home", impl.KPair), decl("Round", impl.KInt)}, true},
	} {
		for _, gate := range schedGates {
			s := turnedBy(schedOf("a b", "a>b"), func(s *impl.Sched) { s.Reg.Ress, s.Systems[1].Gate = c.ress, gate })
			if gate == impl.GateAlways || c.has {
				schedDone(t, s)
			} else {
				schedRefused(t, "a gate without a phase's resource", s, impl.SchGate, 1)
			}
			if gate != impl.GateAlways {
				s.Systems[1].Phase = 3
				if code, _ := impl.SchedOk(s); (code == impl.SchDone) != c.has {
					t.Error("resources", i, "gate", gate, "with a phase:", code)
				}
			}
		}
	}
}

func TestWhen(t *testing.T) {
	s := schedOf("a b", "a>b")
	s.Reg.Ress = append(s.Reg.Ress, decl("Ready", impl.KBool), decl("abcdefghijkl", impl.KBool))
	for _, when := range []string{"", "Over", "Ready", "abcdefghijkl"} {
		for at := range 2 {
			schedDone(t, turnedBy(s, func(s *impl.Sched) { s.Systems[at].When = when }))
		}
	}
	for _, when := range []string{"Score", "Wind", "Home", "On", "Up", "Went", "Hp", "Hit", "a", "calc", "nobody", "over", "Ove", "Overs", " ", "yes", "let", "\xff", strings.Repeat("Over", 100)} {
		for at := range 2 {
			schedRefused(t, "when "+when, turnedBy(s, func(s *impl.Sched) { s.Systems[at].When = when }), impl.SchGate, at)
		}
	}
	s.Reg.Ress = nil
	schedDone(t, s)
	schedRefused(t, "when without resources", turnedBy(s, func(s *impl.Sched) { s.Systems[1].When = "Over" }), impl.SchGate, 1)
}

// 14 systems in one set give 182 edges, and one of the two others behind all
// of them 14 more; the rest comes one by one.
func TestMostEdgesOfRules(t *testing.T) {
	systems := inSets(14, "All") + " o p"
	for more := range 9 {
		rules := "All>All All>o"
		for _, name := range schedNames[:more] {
			rules += " p>" + name
		}
		s := schedOf(systems, rules)
		schedDone(t, s)
		got := impl.Constraints(s)
		if want := 196 + more; want <= impl.MaxEdges && len(got) != want || want > impl.MaxEdges && len(got) != 0 {
			t.Errorf("%d edges: %d are told", want, len(got))
		}
		if len(got) != 0 && !impl.GraphOk(16, got) {
			t.Error("no graph:", got)
		}
	}
}

// Edges that stand already, and those from a number to itself, are not counted.
func TestMostEdgesGivenTwice(t *testing.T) {
	s := schedOf(inSets(14, "All")+" o p", "All>All All>o p>a p>b p>c p>d")
	if got := impl.Constraints(s); len(got) != impl.MaxEdges {
		t.Fatal(len(got))
	}
	want, d := edgesText(impl.Constraints(s)), dice(151)
	for len(s.Rules) < impl.MaxRules {
		s.Rules = append(s.Rules, oneOf(&d, []impl.Rule{{Before: "All", After: "All"}, {Before: "a", After: "a"}, {Before: "p", After: "p"}, {Before: "p", After: "c"}, {Before: "c", After: "All"}}))
		schedDone(t, s)
		if got := edgesText(impl.Constraints(s)); got != want {
			t.Fatal("with", len(s.Rules), "rules:", got)
		}
	}
	s.Rules[len(s.Rules)-1] = impl.Rule{Before: "o", After: "p"}
	schedDone(t, s)
	if got := impl.Constraints(s); len(got) != 0 {
		t.Error("one more:", len(got))
	}
}

func TestFarTooManyEdges(t *testing.T) {
	for n, want := range map[int]int{13: 156, 14: 182, 15: 0, 16: 0} {
		s := schedOf(inSets(n, "All,Every"), "All>Every")
		schedDone(t, s)
		if got := impl.Constraints(s); len(got) != want {
			t.Error(n, "systems:", len(got))
		}
	}
}
