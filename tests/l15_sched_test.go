package tests

import (
	"slices"
	"strings"
	"testing"

	"loop.example/g00070/impl"
)

func TestScheduleConstants(t *testing.T) {
	got := []int{impl.MaxSets, impl.MaxRules, impl.MaxEvery, impl.GateAlways, impl.GateIn, impl.GateEnter, impl.GateLeave,
		impl.SchDone, impl.SchReg, impl.SchText, impl.SchCheck, impl.SchMany, impl.SchSystem, impl.SchSet, impl.SchGate, impl.SchRule, impl.SchCircle, impl.SchClash}
	want := []int{4, 40, 1000000, 0, 1, 2, 3, 0, 1, 2, 3, 4, 5, 6, 7, 8, 9, 10}
	if !slices.Equal(got, want) {
		t.Error("constants:", got)
	}
}

func TestConstraintsByHand(t *testing.T) {
	for _, c := range []struct{ systems, rules, want string }{
		{"", "", ""},
		{"a", "", ""},
		{"a:One", "", ""},
		{"a b", "", ""},
		{"a b", "a>b", "0>1"},
		{"a b", "b>a", "1>0"},
		{"b a", "a>b", "1>0"},
		{"a b c", "c>a b>a", "2>0 1>0"},
		{"a:One b", "One>b", "0>1"},
		{"a b:One", "a>One", "0>1"},
		{"a:One b:Two", "One>Two", "0>1"},
		{"a:One b:One c", "One>c", "0>2 1>2"},
		{"a b:One c:One", "a>One", "0>1 0>2"},
		{"a:One b:One c:Two d:Two", "One>Two", "0>2 0>3 1>2 1>3"},
		{"a:One b:One c:Two d:Two", "Two>One", "2>0 2>1 3>0 3>1"},
		{"a:One b:Two c:One d:Two", "One>Two", "0>1 0>3 2>1 2>3"},
		{"q:One a:Two", "a>One", "1>0"},
	} {
		schedIs(t, c.systems, c.rules, c.want)
	}
}

// No number has an edge to itself, but those to the others stand.
func TestSameSystemOnBothSides(t *testing.T) {
	for _, c := range []struct{ systems, rules, want string }{
		{"a", "a>a", ""},
		{"a:One", "a>One", ""},
		{"a:One", "One>a", ""},
		{"a:One", "One>One", ""},
		{"a:One,Two", "One>Two", ""},
		{"a:One b:One", "a>One", "0>1"},
		{"a:One b:One", "One>a", "1>0"},
		{"a:One b:One", "One>b", "0>1"},
		{"a:One b:One", "One>One", "0>1 1>0"},
		{"a:One b:One c:One", "One>One", "0>1 0>2 1>0 1>2 2>0 2>1"},
		{"a:One b:One,Two c:Two", "One>Two", "0>1 0>2 1>2"},
		{"a:One b:One,Two c:Two", "Two>One", "1>0 2>0 2>1"},
		{"a:One,Two b:One,Two", "One>Two", "0>1 1>0"},
		{"a:One,Two b:One,Two", "One>Two Two>One", "0>1 1>0"},
		{"a b c", "a>a b>b a>c", "0>2"},
	} {
		schedIs(t, c.systems, c.rules, c.want)
	}
}

// An edge stands where the first rule that gives it stands.
func TestEdgesThatSeveralRulesGive(t *testing.T) {
	for _, c := range []struct{ systems, rules, want string }{
		{"a b", "a>b a>b", "0>1"},
		{"a b", "a>b b>a a>b b>a", "0>1 1>0"},
		{"a:One b", "One>b a>b", "0>1"},
		{"a:One b c", "a>c One>b a>b One>c", "0>2 0>1"},
		{"a:One b:One c", "b>c One>c", "1>2 0>2"},
		{"a:One b:One c", "One>c b>c", "0>2 1>2"},
		{"a:One b:One,Two c:Two d", "One>d Two>d", "0>3 1>3 2>3"},
		{"a:One b:One,Two c:Two d", "Two>d One>d", "1>3 2>3 0>3"},
		{"a b c d", "c>d b>c a>b", "2>3 1>2 0>1"},
		{"a b c d", "a>b b>c c>d", "0>1 1>2 2>3"},
	} {
		schedIs(t, c.systems, c.rules, c.want)
	}
}

func TestMembersByHand(t *testing.T) {
	s := schedOf("c:One a:Two,One b d:Two,Three,One,Four", "")
	schedDone(t, s)
	for name, want := range map[string]string{
		"a": "1", "b": "2", "c": "0", "d": "3", "One": "0 1 3", "Two": "1 3", "Three": "3", "Four": "3",
		"": "", "e": "", "calc": "", "Blend": "", "one": "", "ONE": "", "On": "", "Ones": "", "Hp": "", "Over": "", "One,Two": "", "One ": "", "system": "", "\xff": "",
	} {
		if got := numbersText(impl.Members(s, name)); got != want {
			t.Errorf("Members of %q: %q, not %q", name, got, want)
		}
	}
}

// A rule changes neither who is in a set nor what another rule gives.
func TestRulesDoNotChangeMembers(t *testing.T) {
	with, without := schedOf("a:One b:One c", "One>c c>b a>b"), schedOf("a:One b:One c", "")
	for _, name := range []string{"a", "b", "c", "One", "d"} {
		if !slices.Equal(impl.Members(with, name), impl.Members(without, name)) {
			t.Error("Members of", name)
		}
	}
	if got := edgesText(impl.Constraints(with)); got != "0>2 1>2 2>1 0>1" {
		t.Error("Constraints:", got)
	}
}

// A circle is nothing that this chapter refuses.
func TestCirclesAreToldAsTheyAre(t *testing.T) {
	schedIs(t, "a b c", "a>b b>c c>a", "0>1 1>2 2>0")
	schedIs(t, "a b:One c:One", "a>One One>a", "0>1 0>2 1>0 2>0")
}

// Neither gates nor Strict have a say in who comes ahead of whom.
func TestGatesDoNotChangeConstraints(t *testing.T) {
	plain := schedOf("a:One b:One c", "One>c a>b")
	want := edgesText(impl.Constraints(plain))
	for _, gate := range schedGates {
		s := turnedBy(plain, func(s *impl.Sched) {
			s.Strict = true
			s.Systems[1] = impl.Sys{Name: "b", Sets: []string{"One"}, When: "Over", Every: 9, Gate: gate}
		})
		schedDone(t, s)
		if got := edgesText(impl.Constraints(s)); got != want || want != "0>2 1>2 0>1" {
			t.Error("gate", gate, got, want)
		}
	}
}

// The text's own order has no say: systems are numbered as the list has them.
func TestSystemsAreNumberedByTheList(t *testing.T) {
	for _, text := range []string{"system a { } system b { } system c { }", "system c { } system b { } system a { }", "system b { $Score = 1; } system d { } system c { } fn f() int { return 0; } system a { }"} {
		s := schedOf("c:One b a:One", "One>b c>a")
		s.Text = text
		schedDone(t, s)
		if got := edgesText(impl.Constraints(s)); got != "0>1 2>1 0>2" {
			t.Error(text, got)
		}
		if got := numbersText(impl.Members(s, "One")); got != "0 2" {
			t.Error(text, got)
		}
	}
}

// Whatever the order in which a map is gone through, the answer is one.
func TestSchedulesManyTimes(t *testing.T) {
	s := schedOf(inSets(14, "All,Ein")+" o:Zwei p:Zwei,Ein", "All>Zwei Zwei>Ein p>All")
	edges, members := edgesText(impl.Constraints(s)), numbersText(impl.Members(s, "All"))
	if members != numbersText(upTo(14)) || !strings.HasPrefix(edges, "0>14 0>15 1>14 1>15 2>14") {
		t.Fatal(edges, members)
	}
	for range 300 {
		if got := edgesText(impl.Constraints(s)); got != edges {
			t.Fatal("Constraints:", got, "not", edges)
		}
		if got := numbersText(impl.Members(s, "All")); got != members {
			t.Fatal("Members:", got, "not", members)
		}
		if code, at := impl.SchedOk(s); code != impl.SchDone || at != 0 {
			t.Fatal("SchedOk:", code, at)
		}
	}
}
