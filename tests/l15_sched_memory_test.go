package tests

import (
	"slices"
	"testing"

	"loop.example/g00070/impl"
)

func sameText(a, b string) bool { return a == b }

func sameRule(a, b impl.Rule) bool { return a == b }

func sameSysMemory(a, b impl.Sys) bool {
	return a.Name == b.Name && a.When == b.When && a.Every == b.Every && a.Gate == b.Gate && a.Phase == b.Phase && sameMemory(a.Sets, b.Sets)
}

// roomySched has room ahead of each list and behind it, full of what a schedule
// might take for its own.
func (g *guards) roomySched(s impl.Sched) impl.Sched {
	s.Reg = g.roomyReg(s.Reg)
	systems := slices.Clone(s.Systems)
	for i := range systems {
		systems[i].Sets = guardIn(g, systems[i].Sets, "One", sameText)
	}
	s.Systems = guardIn(g, systems, impl.Sys{Name: "a", Sets: []string{"One"}}, sameSysMemory)
	s.Rules = guardIn(g, s.Rules, impl.Rule{Before: "a", After: "One"}, sameRule)
	return s
}

func memorySchedules() []impl.Sched {
	list := []impl.Sched{{}, schedOf("a", ""), schedOf("a:One b:One", "One>One"), schedOf(inSets(14, "One,Two")+" o p", "One>Two Two>o p>a"), schedOf(inSets(16, "One"), "One>One"),
		schedOf("a:calc", ""), schedOf("nobody", "a>b"), {Text: "system"}, {Reg: wrongRegs()[0]}, {Systems: make([]impl.Sys, 20), Rules: make([]impl.Rule, 50)}}
	d := dice(158)
	for range 60 {
		s := anySched(&d)
		list = append(list, s)
		marred := cloneSched(s)
		oneOf(&d, schedFaults)(&d, &marred)
		list = append(list, marred)
	}
	return list
}

// The schedule, with room ahead of each of its lists and behind it, is as it
// was behind each call; and whatever is written into one answer, the argument
// and the next answer are as before.
func TestSchedulesLeaveTheArgumentAlone(t *testing.T) {
	for _, s := range memorySchedules() {
		wantCode, wantAt := impl.SchedOk(s)
		wantEdges := slices.Clone(impl.Constraints(s))
		for _, name := range someAsked(s) {
			wantMembers := slices.Clone(impl.Members(s, name))
			var all guards
			var marks stamps
			roomy := all.roomySched(s)
			for range 2 {
				code, at := impl.SchedOk(roomy)
				if code != wantCode || at != wantAt || !all.kept() {
					t.Fatal("SchedOk", code, at, all.kept(), schedLine(s))
				}
				members := impl.Members(roomy, name)
				if !slices.Equal(members, wantMembers) || !all.kept() {
					t.Fatal("Members", members, all.kept(), schedLine(s))
				}
				edges := impl.Constraints(roomy)
				if !slices.Equal(edges, wantEdges) || !all.kept() {
					t.Fatal("Constraints", edges, all.kept(), schedLine(s))
				}
				marks.ints(members)
				marks.edges(edges)
				if !all.kept() {
					t.Fatal("an answer shares memory with the argument:", schedLine(s))
				}
			}
			if !marks.kept() {
				t.Fatal("two answers share memory:", schedLine(s))
			}
		}
	}
}

// Lists of one argument may lie in one memory, one within the other.
func TestScheduleThatSharesInTheArgument(t *testing.T) {
	sets := []string{"One", "Two", "Three", "Four"}
	rules := schedOf("", "One>d d>Four One>One").Rules
	s := schedOf("a b c d", "")
	s.Systems[0].Sets, s.Systems[1].Sets, s.Systems[2].Sets = sets, sets[:1], sets[1:3]
	s.Rules = rules[:2]
	schedDone(t, s)
	if got := edgesText(impl.Constraints(s)); got != "0>3 1>3 3>0" {
		t.Error("Constraints:", got)
	}
	if !slices.Equal(sets, []string{"One", "Two", "Three", "Four"}) || rules[2] != (impl.Rule{Before: "One", After: "One"}) {
		t.Error("an argument was written into:", sets, rules)
	}
}

// Nothing is kept: another schedule between two calls changes nothing.
func TestSchedulesOneBehindTheOther(t *testing.T) {
	first, second := schedOf("a:One b:One c", "One>c"), schedOf("c:One b a:Two", "a>One One>b")
	for range 20 {
		if got := edgesText(impl.Constraints(first)); got != "0>2 1>2" {
			t.Fatal(got)
		}
		if got := edgesText(impl.Constraints(second)); got != "2>0 0>1" {
			t.Fatal(got)
		}
		if got := numbersText(impl.Members(first, "One")) + ", " + numbersText(impl.Members(second, "One")); got != "0 1, 0" {
			t.Fatal(got)
		}
	}
}
