package tests

import (
	"slices"
	"strings"
	"testing"

	"loop.example/g00070/impl"
)

func TestAnySchedules(t *testing.T) {
	d := dice(152)
	edges, full := 0, 0
	for range 1000 {
		s := anySched(&d)
		schedDone(t, s)
		list := impl.Constraints(s)
		edges += len(list)
		if len(list) > 100 {
			full++
		}
		if !impl.GraphOk(len(s.Systems), list) {
			t.Fatal("no graph:", list)
		}
	}
	if edges < 10000 || full < 20 {
		t.Error("hardly any edges:", edges, full)
	}
}

// Each edge has a rule that gives it, and each two members of the sides of a
// rule have their edge.
func TestAnyRulesAndTheirEdges(t *testing.T) {
	d := dice(153)
	for range 1000 {
		s := anySched(&d)
		edges := impl.Constraints(s)
		if len(edges) == 0 {
			continue
		}
		for from := range s.Systems {
			for to := range s.Systems {
				given := slices.ContainsFunc(s.Rules, func(r impl.Rule) bool { return isMeant(s, r.Before, from) && isMeant(s, r.After, to) })
				if slices.Contains(edges, impl.Edge{From: from, To: to}) != (given && from != to) {
					t.Fatal(from, to, given, schedLine(s))
				}
			}
		}
		slices.SortFunc(edges, func(a, b impl.Edge) int { return (a.From-b.From)*100 + a.To - b.To })
		if len(slices.Compact(slices.Clone(edges))) != len(edges) {
			t.Fatal("an edge stands twice:", edgesText(edges))
		}
	}
}

func isMeant(s impl.Sched, name string, at int) bool {
	return s.Systems[at].Name == name || slices.Contains(s.Systems[at].Sets, name)
}

// Rules in another order give the same edges in another order, and each rule
// alone gives its own.
func TestAnyRulesInAnotherOrder(t *testing.T) {
	d := dice(154)
	for range 500 {
		s := anySched(&d)
		if len(impl.Constraints(s)) == 0 {
			continue
		}
		turned := turnedBy(s, func(s *impl.Sched) { slices.Reverse(s.Rules) })
		schedDone(t, turned)
		var alone []impl.Edge
		for _, rule := range s.Rules {
			one := turnedBy(s, func(s *impl.Sched) { s.Rules = []impl.Rule{rule} })
			for _, e := range impl.Constraints(one) {
				if !slices.Contains(alone, e) {
					alone = append(alone, e)
				}
			}
		}
		if got := impl.Constraints(s); !slices.Equal(got, alone) {
			t.Fatal("rule by rule:", edgesText(alone), "together:", edgesText(got))
		}
		for _, e := range impl.Constraints(turned) {
			if !slices.Contains(alone, e) {
				t.Fatal("another order gives", e)
			}
		}
		if len(impl.Constraints(turned)) != len(alone) {
			t.Fatal("another order gives other edges")
		}
	}
}

// A set written out as its members gives the same edges.
func TestAnySetsWrittenOut(t *testing.T) {
	d := dice(155)
	tried := 0
	for range 1500 {
		s := anySched(&d)
		var rules []impl.Rule
		for _, rule := range s.Rules {
			after := impl.Members(s, rule.After)
			for _, from := range impl.Members(s, rule.Before) {
				for _, to := range after {
					rules = append(rules, impl.Rule{Before: s.Systems[from].Name, After: s.Systems[to].Name})
				}
			}
		}
		if len(rules) == 0 || len(rules) > impl.MaxRules {
			continue
		}
		tried++
		written := turnedBy(s, func(s *impl.Sched) { s.Rules = rules })
		if got, want := edgesText(impl.Constraints(written)), edgesText(impl.Constraints(s)); got != want {
			t.Fatal(got, "not", want, schedLine(s))
		}
	}
	if tried < 100 {
		t.Error("hardly any:", tried)
	}
}

// schedFaults is what a schedule may have wrong, each done to it somewhere.
var schedFaults = []func(d *dice, s *impl.Sched){
	func(d *dice, s *impl.Sched) { s.Reg = oneOf(d, wrongRegs()) },
	func(d *dice, s *impl.Sched) { s.Text = s.Text[:d.roll(len(s.Text))] },
	func(d *dice, s *impl.Sched) {
		s.Text += oneOf(d, []string{"system a { }", "fn calc() int { return 2; }", "system z { $Nobody = 1; }", "system", "system z { kill; }"})
	},
	func(d *dice, s *impl.Sched) {
		s.Systems = append(s.Systems, slices.Repeat([]impl.Sys{{Name: "a"}}, d.roll(17))...)
	},
	func(d *dice, s *impl.Sched) {
		s.Rules = append(s.Rules, slices.Repeat([]impl.Rule{{Before: "a", After: "b"}}, d.roll(50))...)
	},
	onSystem(func(d *dice, y *impl.Sys) {
		y.Name = oneOf(d, []string{"", "a", "p", "calc", "Blend", "nobody", "One", "Hp", "A"})
	}),
	onSystem(func(d *dice, y *impl.Sys) {
		y.Sets = append(y.Sets, oneOf(d, []string{"", "a", "q", "calc", "One", "Two", "All", "let", "x1", "abcdefghijklm", "Good"}))
	}),
	onSystem(func(d *dice, y *impl.Sys) {
		y.When = oneOf(d, []string{"Score", "Wind", "On", "Went", "nobody", "Over"})
	}),
	onSystem(func(d *dice, y *impl.Sys) {
		y.Every = oneOf(d, []int{-1, impl.MaxEvery + 1, leastInt, mostInt, impl.MaxEvery})
	}),
	onSystem(func(d *dice, y *impl.Sys) { y.Gate = oneOf(d, []int{-1, 4, leastInt, mostInt, 0, 3}) }),
	onSystem(func(d *dice, y *impl.Sys) { y.Phase = oneOf(d, []int{1, -1, leastInt, mostInt}) }),
	func(d *dice, s *impl.Sched) {
		s.Reg.Ress = slices.DeleteFunc(s.Reg.Ress, func(x impl.Decl) bool { return x.Kind == impl.KInt })
	},
	func(d *dice, s *impl.Sched) {
		name := oneOf(d, []string{"", "a", "q", "calc", "One", "All", "nobody"})
		rule := oneOf(d, []impl.Rule{{Before: name, After: "a"}, {Before: "b", After: name}, {Before: name, After: name}})
		s.Rules = slices.Insert(s.Rules, d.roll(len(s.Rules)+1), rule)
	},
}

func onSystem(turn func(d *dice, y *impl.Sys)) func(d *dice, s *impl.Sched) {
	return func(d *dice, s *impl.Sched) {
		if len(s.Systems) > 0 {
			turn(d, &s.Systems[d.roll(len(s.Systems))])
		}
	}
}

// One fault, or several at once: the first of them is told.
func TestAnyFaultsOfSchedules(t *testing.T) {
	d := dice(156)
	met := map[int]int{}
	for i := range 3000 {
		s := cloneSched(anySched(&d))
		for range 1 + i%4 {
			oneOf(&d, schedFaults)(&d, &s)
		}
		code, at := plainSchedOk(s)
		met[code]++
		if code == impl.SchDone {
			schedDone(t, s)
		} else {
			schedRefused(t, "by chance", s, code, at)
		}
		if t.Failed() {
			return
		}
	}
	for code := impl.SchDone; code <= impl.SchRule; code++ {
		if met[code] < 40 {
			t.Error("code", code, "is met", met[code], "times")
		}
	}
}

// Texts with systems that do something have the constraints of empty ones.
func TestAnyTextsOfSchedules(t *testing.T) {
	w := newAuthor(157)
	asked := 0
	for range 300 {
		x := treeOf(w.text(4, 2)...)
		text, ok := impl.Print(x)
		if _, code, _ := impl.Parse(text); !ok || code != impl.ParDone {
			continue
		}
		s := impl.Sched{Reg: checkReg(), Text: text}
		var empty strings.Builder
		for _, top := range x.Tops {
			if x.Nodes[top].Kind == impl.NSystem {
				name := x.Nodes[top].Text
				s.Systems = append(s.Systems, impl.Sys{Name: name, Sets: []string{"Everyone"}})
				s.Rules = append(s.Rules, impl.Rule{Before: "Everyone", After: name})
				empty.WriteString("system " + name + " { }")
			}
		}
		schedDone(t, s)
		bare := turnedBy(s, func(s *impl.Sched) { s.Text = empty.String() })
		schedDone(t, bare)
		if edgesText(impl.Constraints(s)) != edgesText(impl.Constraints(bare)) {
			t.Fatal(text)
		}
		asked += len(s.Systems)
	}
	if asked < 100 {
		t.Error("hardly any systems:", asked)
	}
}
