package tests

import (
	"slices"
	"strings"
	"testing"

	"loop.example/g00070/impl"
)

// Two that clash by commands alone are apart: they need not wait, but a strict
// schedule refuses them all the same.
func TestStrictWithAClashOfCommandsAlone(t *testing.T) {
	for _, c := range []struct {
		systems, pairs string
	}{
		{"a:make b:look", "0 1 cmd 0"},
		{"a:look b:make", "0 1 cmd 0"},
		{"a:make b:heal", "0 1 cmd 0"},
		{"a:make b:make", "0 1 cmd 0"},
		{"a:breed b:look", "0 1 cmd 0"},
		{"a:put b:mind", "0 1 cmd 4"},
		{"a:drop b:lack", "0 1 cmd 4"},
		{"a:kill b:look", "0 1 cmd 0"},
		{"a:kill b:cool", "0 1 cmd 5"},
		{"a:kill b:kill", "0 1 cmd 0"},
	} {
		s := planOf(c.systems, "")
		planIs(t, s, "0 0 | 0 1 | ")
		unorderedIs(t, s, c.pairs)
		planRefused(t, "commands", strictly(s), impl.SchClash, 0)
		for _, rules := range []string{"a>b", "b>a"} {
			unorderedIs(t, planOf(c.systems, rules), "")
			planDone(t, strictly(planOf(c.systems, rules)))
		}
	}
	planRefused(t, "the second one", strictly(planOf("a b:make c:look", "")), impl.SchClash, 1)
	planIs(t, strictly(planOf("a:spawn b:look c:heal", "b>c")), "0 0 0 | 0 1 2 | 1>2")
}

// The number is that of the first pair, not of the first system nor of the first
// clash by its sort.
func TestStrictRefusalNamesTheFirstPair(t *testing.T) {
	for _, c := range []struct {
		systems, rules string
		at             int
	}{
		{"a b:look c:heal d:heal", "", 1},
		{"a b c:look d:heal", "", 2},
		{"a:count b:heal c:heal d:rate", "", 0},
		{"a:count b:heal c:heal d:rate", "a>d", 1},
		{"a:count b:heal c:heal d:rate", "d>a", 1},
		{"a:count b:heal c:heal d:rate", "b>c", 0},
		{"a:make b:heal c:heal d:look", "", 0},
		{"a:make b:heal c:heal d:look", "a>b a>c a>d", 1},
		{"a:make b:heal c:heal d:look", "a>b b>d a>c", 1},
		{"a:make b:heal c:heal d:look", "a>b c>a d>a", 2},
		{"a:tell b:rate c:note d:count", "a>c", 1},
	} {
		planRefused(t, "strict", strictly(planOf(c.systems, c.rules)), impl.SchClash, c.at)
		planDone(t, planOf(c.systems, c.rules))
	}
}

// A clash that constraints order is none, by whatever way they do it.
func TestStrictWithClashesThatConstraintsOrder(t *testing.T) {
	for _, c := range [][3]string{
		{"a:heal b:look", "a>b", "0 0 | 0 1 | 0>1"},
		{"a:heal b:look", "b>a", "0 0 | 1 0 | 1>0"},
		{"a:heal b c:look", "a>b b>c", "0 0 0 | 0 1 2 | 0>1 1>2"},
		{"a:heal b c:look", "c>b b>a", "0 0 0 | 2 1 0 | 1>0 2>1"},
		{"a:heal:One b:look:Two c:rate:Two", "One>Two", "0 0 0 | 0 1 2 | 0>1 0>2"},
		{"a:heal:One b:look:One c:heal:Two", "One>Two a>b", "0 0 0 | 0 1 2 | 0>1 1>2"},
		{"a:reap b:look", "a>b", "0 1 | 0 1 | "},
		{"a:make b:count c:look", "a>b b>c", "0 1 1 | 0 1 2 | 1>2"},
	} {
		planIs(t, strictly(planOf(c[0], c[1])), c[2])
		unorderedIs(t, planOf(c[0], c[1]), "")
	}
}

// Two in different stages that no constraint orders are told, though they can
// never meet.
func TestUnorderedInDifferentStages(t *testing.T) {
	s := planOf("a:spawn b:heal c:heal", "a>b")
	planIs(t, s, "0 1 0 | 0 2 1 | ")
	unorderedIs(t, s, "1 2 comp 0")
	planRefused(t, "in different stages", strictly(s), impl.SchClash, 1)
	s = planOf("a:spawn b:count c:tally", "a>c")
	planIs(t, s, "0 0 1 | 0 1 2 | ")
	unorderedIs(t, s, "1 2 res 0")
	s = planOf("a:spawn b:tell c:spawn d:note", "a>b b>c")
	planIs(t, s, "0 1 1 0 | 0 3 1 2 | 1>2")
	unorderedIs(t, s, "1 3 evt 0")
}

// Who is ahead by way of a third one in another stage is in another stage, too:
// no edge leads there, and nothing is unordered.
func TestAheadByWayOfAnotherStage(t *testing.T) {
	for _, c := range [][3]string{
		{"a:heal b:make c:heal", "a>b b>c", "0 0 1 | 0 1 2 | 0>1"},
		{"a:make b:heal c:heal", "a>b b>c", "0 1 1 | 0 1 2 | 1>2"},
		{"a:heal b:heal c:make", "a>c c>b", "0 1 0 | 0 2 1 | 0>2"},
		{"a:make b:make c:heal d:heal", "c>a a>b b>d", "0 1 0 2 | 2 0 1 3 | 2>0"},
	} {
		s := planOf(c[0], c[1])
		planIs(t, s, c[2])
		unorderedIs(t, s, "")
		planIs(t, strictly(s), c[2])
	}
	// The rule from the first to the last one changes nothing.
	for _, systems := range []string{"a:heal b:make c:heal", "a:make b:heal c:heal", "a b c", "a:make b:make c:make"} {
		short, long := planOf(systems, "a>b b>c"), planOf(systems, "a>c a>b b>c")
		if p := planDone(t, short); !impl.PlanSame(p, planDone(t, long)) {
			t.Error(systems, planText(p))
		}
	}
}

func TestCirclesHaveNoPlan(t *testing.T) {
	for _, c := range []struct {
		systems, rules string
		at             int
	}{
		{"a b", "a>b b>a", 0},
		{"a b c d", "b>c c>d d>b", 1},
		{"a b c d", "d>c c>d", 2},
		{"a b c d e f", "b>c c>d d>b e>f f>e", 4},
		{"a b c d e f", "e>f f>e b>c c>b", 1},
		{"a:One b c:One", "One>b b>a", 0},
		{"a:One b c:One", "One>b b>c", 1},
		{"a:One b:Two c:One", "One>Two Two>One", 0},
		{"a b:One c:One", "One>One", 1},
		{"a:One b:One,Two c:One,Two", "One>Two", 1},
		{"a b c:One,Two d:Two,One", "One>Two", 2},
		{"a b:One c:One d:One", "One>One a>One", 1},
		{"a:One b c d e:One", "b>c c>One One>d d>b", 0},
		{"a b c:One d e:One", "b>c c>One d>b e>d", 1},
	} {
		for _, body := range []string{"", "heal", "make"} {
			s := planOf(doing(c.systems, body), c.rules)
			planRefused(t, "a circle", s, impl.SchCircle, c.at)
			planRefused(t, "a strict circle", strictly(s), impl.SchCircle, c.at)
			if circle := impl.Circle(len(s.Systems), impl.Constraints(s)); len(circle) == 0 || circle[0] != c.at {
				t.Error("Circle:", circle, schedLine(s))
			}
		}
	}
	for _, rules := range []string{"a>a", "One>a a>One", "b>b a>b a>a"} {
		planDone(t, planOf("a::One b", rules))
	}
}

// doing is for systems such as "a:One,Two b", which all do the same.
func doing(systems, body string) string {
	words := strings.Fields(systems)
	for i, word := range words {
		name, sets, _ := strings.Cut(word, ":")
		words[i] = name + ":" + body + ":" + sets
	}
	return strings.Join(words, " ")
}

// A circle is told ahead of a clash, whatever the numbers are.
func TestCircleAndClash(t *testing.T) {
	for _, s := range []impl.Sched{planOf("a:heal b:heal c d", "c>d d>c"), planOf("a:heal b:heal c:make d:look", "c>d d>c"), planOf("a:kill b:kill c::One d::One", "One>One")} {
		planRefused(t, "a circle behind a clash", s, impl.SchCircle, 2)
		planRefused(t, "a circle behind a clash", strictly(s), impl.SchCircle, 2)
		s.Rules = nil
		planRefused(t, "the clash alone", strictly(s), impl.SchClash, 0)
	}
}

// What SchedOk refuses is told ahead of a circle and of a clash.
func TestFaultAndCircle(t *testing.T) {
	for _, s := range []impl.Sched{planOf("a:heal:One b:heal:One c:heal:One", "a>b b>a"), planOf("a:heal:One b:heal:One c:heal:One", "One>One"), planOf("a:heal:One b:heal:One c:heal:One", "a>b")} {
		for _, strict := range []bool{false, true} {
			for _, wrong := range schedWrong {
				q := turnedBy(s, func(s *impl.Sched) {
					s.Strict = strict
					s.Text += "fn calc() int { return 1; }"
					wrong.turn(s, 1)
				})
				code, at := plainSchedOk(q)
				if code != wrong.code {
					t.Fatal("not the fault that was meant:", code, wrong.code)
				}
				planRefused(t, "a fault and a circle", q, code, at)
			}
		}
	}
}

// The edges of all rules just MaxEdges: more than any graph without a circle
// has, so the circle is told. One more, and the rules are.
func TestMostEdgesOfPlans(t *testing.T) {
	systems := "o p " + inSets(14, "All")
	for more := range 9 {
		rules := "All>All All>o"
		for _, name := range schedNames[:more] {
			rules += " p>" + name
		}
		s := schedOf(systems, rules)
		for _, q := range []impl.Sched{s, strictly(s)} {
			if 196+more <= impl.MaxEdges {
				planRefused(t, "at most MaxEdges", q, impl.SchCircle, 2)
			} else {
				planRefused(t, "above MaxEdges", q, impl.SchRule, 0)
			}
		}
	}
}

// A rule of nobody, however far behind, is told ahead of too many edges; and
// these ahead of a circle and of a clash.
func TestTooManyEdgesAndOtherFaults(t *testing.T) {
	s := schedOf("o p "+inSets(14, "All"), "All>All All>o p>a p>b p>c p>d p>e")
	s.Text = strings.ReplaceAll(s.Text, "{ }", "{ $Score = 1; }")
	planRefused(t, "too many edges", strictly(s), impl.SchRule, 0)
	wrong := turnedBy(s, func(s *impl.Sched) { s.Rules = append(s.Rules, impl.Rule{Before: "a", After: "nobody"}) })
	planRefused(t, "too many edges and a rule of nobody", strictly(wrong), impl.SchRule, 7)
	wrong = turnedBy(s, func(s *impl.Sched) { s.Systems[5].Every = -1 })
	planRefused(t, "too many edges and a gate", strictly(wrong), impl.SchGate, 5)
	few := turnedBy(s, func(s *impl.Sched) { s.Rules = s.Rules[1:] })
	planDone(t, few)
	planRefused(t, "a clash without the edges", strictly(few), impl.SchClash, 1)
}

// Edges that stand already, and those from a number to itself, are not counted.
func TestEdgesOfPlansGivenTwice(t *testing.T) {
	s := schedOf(inSets(14, "All")+" o p", "All>All All>o p>a p>b p>c p>d")
	for len(s.Rules) < impl.MaxRules {
		s.Rules = append(s.Rules, impl.Rule{Before: "All", After: "All"})
	}
	planRefused(t, "given twice", s, impl.SchCircle, 0)
	s = planOf("a:heal:One b:heal:Two c:make:One,Two", strings.Repeat("a>c c>b a>b ", 13)+"c>c")
	planIs(t, s, "0 1 0 | 0 2 1 | 0>2")
}

func TestMostSystemsInPlans(t *testing.T) {
	names := schedNames[:impl.MaxSys]
	down := slices.Clone(names)
	slices.Reverse(down)
	up, zero := numbersText(upTo(16)), strings.TrimSpace(strings.Repeat("0 ", 16))
	for _, c := range [][3]string{
		{allDo(16, ""), "", zero + " | " + up + " | "},
		{allDo(16, "look"), "", zero + " | " + up + " | "},
		{allDo(16, "make"), "", zero + " | " + up + " | "},
		{allDo(16, "heal"), "", zero + " | " + up + " | " + edgesText(row(upTo(16)...))},
		{allDo(16, "reap"), "", zero + " | " + up + " | " + edgesText(row(upTo(16)...))},
		{allDo(16, ""), chainOf(names...), zero + " | " + up + " | " + edgesText(row(upTo(16)...))},
		{allDo(16, "make"), chainOf(names...), up + " | " + up + " | "},
		{allDo(16, "reap"), chainOf(names...), up + " | " + up + " | "},
		{allDo(16, "make"), chainOf(down...), numbersText(downFrom(16)) + " | " + numbersText(downFrom(16)) + " | "},
	} {
		planIs(t, planOf(c[0], c[1]), c[2])
	}
	if p := planDone(t, planOf(allDo(16, "make"), chainOf(names...))); impl.Stages(p) != impl.MaxSys {
		t.Error("Stages:", impl.Stages(p))
	}
	if got := impl.Unordered(planOf(allDo(16, "heal"), "")); len(got) != 120 || got[0].A != 0 || got[119] != (impl.Pair{A: 14, B: 15, Clash: impl.Clash{Sort: impl.ClashComp, At: 0}}) {
		t.Error("Unordered:", pairsText(got))
	}
	planRefused(t, "one system more", schedOf(strings.Join(schedNames, " "), ""), impl.SchMany, 0)
}

// Half of the systems ahead of the other half, by one rule: as many constraints
// as there are pairs of them.
func TestMostSystemsInTwoSets(t *testing.T) {
	var words []string
	for i, name := range schedNames[:impl.MaxSys] {
		words = append(words, name+":"+[]string{"", "make"}[i/4%2]+":"+[]string{"One", "Two"}[i/8])
	}
	s := planOf(strings.Join(words, " "), "One>Two")
	planIs(t, s, "0 0 0 0 0 0 0 0 1 1 1 1 1 1 1 1 | "+numbersText(upTo(16))+" | ")
	s.Rules[0] = impl.Rule{Before: "Two", After: "One"}
	planIs(t, s, "1 1 1 1 1 1 1 1 0 0 0 0 0 0 0 0 | 8 9 10 11 12 13 14 15 0 1 2 3 4 5 6 7 | ")
	unorderedIs(t, s, pairsText(plainUnordered(s)))
}

func TestStagesAtTheirLimits(t *testing.T) {
	for _, c := range []struct {
		stage []int
		want  int
	}{
		{nil, 0},
		{[]int{}, 0},
		{[]int{0}, 1},
		{[]int{0, 0, 0}, 1},
		{[]int{3}, 4},
		{[]int{2, 5, 1}, 6},
		{[]int{-1}, 0},
		{[]int{-1, -2}, 0},
		{[]int{-1, 0}, 1},
		{[]int{2, -1}, 3},
		{[]int{impl.MaxSys - 2}, 15},
		{[]int{impl.MaxSys - 1}, 16},
		{[]int{impl.MaxSys - 1, leastInt}, 16},
		{[]int{impl.MaxSys}, 0},
		{[]int{1, impl.MaxSys, 2}, 0},
		{[]int{impl.MaxSys + 1}, 0},
		{[]int{leastInt}, 0},
		{[]int{leastInt, 7}, 8},
		{[]int{mostInt}, 0},
		{[]int{0, mostInt}, 0},
		{[]int{mostInt - 1}, 0},
		{[]int{leastInt, mostInt}, 0},
		{append(make([]int, 5000), 4), 5},
		{append(make([]int, 5000), 16), 0},
	} {
		for _, p := range []impl.Plan{
			{Stage: c.stage},
			{Stage: c.stage, Order: []int{9, 99}, Edges: edgesOf("20>30"), Effects: []impl.Effect{effOf("Read 50")}},
		} {
			if got := impl.Stages(p); got != c.want {
				t.Errorf("Stages of %.60v: %d, not %d", c.stage, got, c.want)
			}
		}
	}
	if got := impl.Stages(impl.Plan{Order: []int{0, 1}, Edges: edgesOf("0>1"), Effects: make([]impl.Effect, 2)}); got != 0 {
		t.Error("Stages without a Stage:", got)
	}
}
