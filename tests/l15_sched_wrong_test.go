package tests

import (
	"strings"
	"testing"

	"loop.example/g00070/impl"
)

func TestSchedulesWithWrongRegs(t *testing.T) {
	for i, r := range wrongRegs() {
		s := schedOf("a:One b", "One>b")
		s.Reg = r
		schedRefused(t, "a wrong Reg", s, impl.SchReg, 0)
		if i%10 == 0 {
			s.Text = "system"
			schedRefused(t, "a wrong Reg and a wrong text", s, impl.SchReg, 0)
			schedRefused(t, "a wrong Reg alone", impl.Sched{Reg: r}, impl.SchReg, 0)
		}
	}
}

// Behind a right beginning and ahead of it, what Parse refuses is told with
// Parse's place.
func TestSchedulesWithTextsThatParseRefuses(t *testing.T) {
	for _, text := range []string{"system a {", "system a { } }", "x", "system", "?", "system a { } \xff", "fn f() { }", "system 1 { }", "system let { }", "system a { 1; }",
		strings.Repeat(" ", 5) + "{", strings.Repeat("x", 30000), "system a { if " + strings.Repeat("(", 60) + "1" + strings.Repeat(")", 60) + " { } }"} {
		_, code, at := impl.Parse(text)
		if code == impl.ParDone {
			t.Fatal("right:", text)
		}
		for _, s := range []impl.Sched{{Text: text}, turnedBy(schedOf("a:One b", "One>b"), func(s *impl.Sched) { s.Text = text }), turnedBy(schedOf("nobody", "x>y"), func(s *impl.Sched) { s.Text = text })} {
			schedRefused(t, "a text", s, impl.SchText, at)
		}
	}
	whole := schedText()
	for cut := range len(whole) {
		s := schedOf("", "")
		s.Text = whole[:cut]
		if _, code, at := impl.Parse(s.Text); code != impl.ParDone {
			schedRefused(t, "a cut text", s, impl.SchText, at)
		}
	}
	for text, at := range map[string]int{"system a {": 10, "}": 0, "system a { } x": 13, "  ?": 2} {
		schedRefused(t, "by hand", impl.Sched{Text: text}, impl.SchText, at)
	}
}

func TestSchedulesWithTextsThatCheckRefuses(t *testing.T) {
	for _, text := range []string{"system a { } system a { }", "system a { $Nobody = 1; }", "system a { $Score = 1.5; }", "system a { .Hp = 1; }", "system a { let x = 1; let x = 2; }", "fn f() int { }",
		schedText() + "system a { }", schedText() + "fn calc() int { return 1; }", schedText() + "system z { do nobody(); }", "system z { each with Nobody { } }"} {
		code, node := impl.Check(checkReg(), parsedTree(t, text))
		if code == impl.ChkDone {
			t.Fatal("right:", text)
		}
		for _, s := range []impl.Sched{schedOf("", ""), schedOf("a:One b", "One>b"), schedOf("nobody", "x>y"), schedOf(strings.Join(schedNames, " "), "")} {
			s.Text = text
			schedRefused(t, "a text", s, impl.SchCheck, node)
		}
	}
	s := schedOf("a", "")
	s.Text = "system a { $Score = 1; }"
	schedDone(t, s)
	s.Reg = impl.Reg{}
	schedRefused(t, "a text by another Reg", s, impl.SchCheck, 1)
}

func TestWrongNamesOfSystems(t *testing.T) {
	for _, name := range []string{"", "calc", "Blend", "nobody", "One", "A", "Hp", "Over", "let", "a ", " a", "aa", "\xff", strings.Repeat("a", 1000)} {
		for _, at := range []int{0, 1, 2} {
			s := schedOf("a:One b:One c:One", "One>One")
			s.Systems[at].Name = name
			schedRefused(t, "the name "+name, s, impl.SchSystem, at)
		}
	}
	for first := range 4 {
		for second := range first {
			s := schedOf("a b c d", "")
			s.Systems[first].Name = s.Systems[second].Name
			schedRefused(t, "a name twice", s, impl.SchSystem, first)
		}
	}
	last := schedOf(strings.Join(schedNames[:15], " ")+" a", "")
	schedRefused(t, "the last name stands already", last, impl.SchSystem, 15)
}

func TestWrongSets(t *testing.T) {
	for _, set := range append([]string{"a", "b", "c", "q", "calc", "Blend"}, append(wrongNames()[:40], allWords...)...) {
		for at := range 3 {
			for place := range 3 {
				s := schedOf("a:One,Two,Three b:One,Two,Three c:One,Two,Three", "")
				s.Systems[at].Sets[place] = set
				schedRefused(t, "the set "+set, s, impl.SchSet, at)
			}
		}
	}
	for at := range 2 {
		for first := range 4 {
			for second := range first {
				s := schedOf("a:R,S,T,U b:R,S,T,U", "")
				s.Systems[at].Sets[first] = s.Systems[at].Sets[second]
				schedRefused(t, "a set twice", s, impl.SchSet, at)
			}
		}
	}
	s := schedOf("a:One", "")
	s.Systems[0].Sets = strings.Fields(strings.Repeat("One ", 5000))
	schedRefused(t, "many sets", s, impl.SchSet, 0)
}

func TestWrongRules(t *testing.T) {
	for _, name := range []string{"", "c", "q", "calc", "Blend", "Two", "one", "Hp", "Over", "let", "nobody", "a ", "\xff", strings.Repeat("a", 1000)} {
		for at := range 4 {
			for _, rule := range []impl.Rule{{Before: name, After: "a"}, {Before: "b", After: name}, {Before: "One", After: name}, {Before: name, After: "One"}, {Before: name, After: name}} {
				s := schedOf("a:One b:One", "a>b b>a One>a b>One")
				s.Rules[at] = rule
				schedRefused(t, "a rule of "+name, s, impl.SchRule, at)
			}
		}
	}
	s := schedOf("a b", strings.Repeat("a>b ", impl.MaxRules))
	s.Rules[impl.MaxRules-1].After = "c"
	schedRefused(t, "the last rule", s, impl.SchRule, impl.MaxRules-1)
	schedRefused(t, "a rule of nobody", impl.Sched{Rules: make([]impl.Rule, 1)}, impl.SchRule, 0)
	schedRefused(t, "rules of nobody", impl.Sched{Rules: make([]impl.Rule, impl.MaxRules)}, impl.SchRule, 0)
}

// schedWrong breaks one rule of the document at a system, or all in all.
var schedWrong = []struct {
	code int
	turn func(s *impl.Sched, at int)
}{
	{impl.SchReg, func(s *impl.Sched, at int) { s.Reg.Ress[0].Kind = 0 }},
	{impl.SchText, func(s *impl.Sched, at int) { s.Text = "?" + s.Text }},
	{impl.SchCheck, func(s *impl.Sched, at int) {
		s.Text = strings.Replace(s.Text, "fn calc", "system z { .Hp = 1; } fn calc", 1)
	}},
	{impl.SchMany, func(s *impl.Sched, at int) {
		for len(s.Rules) <= impl.MaxRules {
			s.Rules = append(s.Rules, impl.Rule{Before: "a", After: "b"})
		}
	}},
	{impl.SchSystem, func(s *impl.Sched, at int) { s.Systems[at].Name = "calc" }},
	{impl.SchSet, func(s *impl.Sched, at int) { s.Systems[at].Sets = []string{"One", "calc"} }},
	{impl.SchGate, func(s *impl.Sched, at int) { s.Systems[at].Every = -1 }},
	{impl.SchRule, func(s *impl.Sched, at int) { s.Rules[0].Before = "nobody" }},
}

// Of two faults the one that the document names first is told, with its own
// number; of two systems it is the first one's, whatever it is.
func TestTwoFaultsOfASchedule(t *testing.T) {
	number := func(code, at int) int {
		switch code {
		case impl.SchSystem, impl.SchSet, impl.SchGate:
			return at
		case impl.SchCheck:
			return 1
		}
		return 0
	}
	for i, one := range schedWrong {
		for j, two := range schedWrong {
			for _, places := range [][2]int{{0, 0}, {0, 2}, {2, 0}, {1, 2}, {2, 1}, {2, 2}} {
				if i == j && places[0] != places[1] {
					continue
				}
				s := cloneSched(schedOf("a:One b:One c:One", "One>a b>c"))
				one.turn(&s, places[0])
				if i != j {
					two.turn(&s, places[1])
				}
				code, at := one.code, number(one.code, places[0])
				otherAt := number(two.code, places[1])
				bySystems := one.code >= impl.SchSystem && one.code <= impl.SchGate && two.code >= impl.SchSystem && two.code <= impl.SchGate
				if bySystems && otherAt < at || !(bySystems && otherAt != at) && two.code < code {
					code, at = two.code, otherAt
				}
				schedRefused(t, "two faults", s, code, at)
			}
		}
	}
}

// A gate's faults, each alone and each beside another one, have one code.
func TestTwoFaultsOfAGate(t *testing.T) {
	turns := []func(y *impl.Sys){
		func(y *impl.Sys) { y.When = "Score" },
		func(y *impl.Sys) { y.Every = impl.MaxEvery + 1 },
		func(y *impl.Sys) { y.Gate = 4 },
		func(y *impl.Sys) { y.Phase = 1 },
	}
	for _, one := range turns {
		for _, two := range turns {
			s := schedOf("a b", "")
			one(&s.Systems[1])
			two(&s.Systems[1])
			schedRefused(t, "two faults of a gate", s, impl.SchGate, 1)
		}
	}
}

func TestRefusedByTheFirstRuleAndTheLast(t *testing.T) {
	s := schedOf("a b", "x>a a>b b>y")
	schedRefused(t, "two rules", s, impl.SchRule, 0)
	s.Rules = s.Rules[1:]
	schedRefused(t, "the last rule", s, impl.SchRule, 1)
	s.Rules = s.Rules[:1]
	schedDone(t, s)
}
