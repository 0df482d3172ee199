package tests

import (
	"slices"
	"strings"
	"testing"

	"loop.example/g00070/impl"
)

func TestPlansOfNoSystems(t *testing.T) {
	for _, s := range []impl.Sched{
		{},
		{Strict: true},
		{Systems: []impl.Sys{}, Rules: []impl.Rule{}},
		{Reg: checkReg(), Text: schedText()},
		planOf("", ""),
	} {
		planIs(t, s, " |  | ")
		unorderedIs(t, s, "")
		p, _, _ := impl.MakePlan(s)
		if len(p.Effects) != 0 || impl.Stages(p) != 0 || !impl.PlanSame(p, impl.Plan{}) {
			t.Error("a plan of nothing:", wholePlanText(p))
		}
	}
}

// Nobody clashes with themselves, or waits for themselves.
func TestPlansOfOneSystem(t *testing.T) {
	for _, body := range bodyNames() {
		for _, rules := range []string{"", "a>a", "One>One a>One"} {
			s := planOf("a:"+body+":One", rules)
			planIs(t, s, "0 | 0 | ")
			unorderedIs(t, s, "")
			if p := planDone(t, s); impl.Stages(p) != 1 || effectsText(p.Effects) != planEffects[body] {
				t.Errorf("%q: %d stages, effects %q", body, impl.Stages(p), effectsText(p.Effects))
			}
		}
	}
}

func TestTwoThatTouchNothingTogether(t *testing.T) {
	for _, pair := range []string{"a b", "a:look b:look", "a:look b:count", "a:heal b:cool", "a:count b:wind", "a:rate b:rate", "a:note b:note", "a:tell b:count", "a:mind b:lack", "a:heal b:tell"} {
		unorderedIs(t, planOf(pair, ""), "")
		planIs(t, planOf(pair, ""), "0 0 | 0 1 | ")
		planIs(t, planOf(pair, "a>b"), "0 0 | 0 1 | 0>1")
		planIs(t, planOf(pair, "b>a"), "0 0 | 1 0 | 1>0")
	}
}

func TestTwoThatClashInPlans(t *testing.T) {
	for _, c := range [][2]string{
		{"a:heal b:look", "comp 0"},
		{"a:look b:heal", "comp 0"},
		{"a:heal b:heal", "comp 0"},
		{"a:reset b:look", "comp 0"},
		{"a:cool b:cool", "comp 5"},
		{"a:count b:rate", "res 0"},
		{"a:tally b:rate", "res 0"},
		{"a:tally b:count", "res 0"},
		{"a:wind b:wind", "res 1"},
		{"a:tell b:tell", "evt 0"},
		{"a:tell b:note", "evt 0"},
		{"a:note b:tell", "evt 0"},
	} {
		unorderedIs(t, planOf(c[0], ""), "0 1 "+c[1])
		planIs(t, planOf(c[0], ""), "0 0 | 0 1 | 0>1")
		for rules, want := range map[string]string{"a>b": "0 0 | 0 1 | 0>1", "b>a": "0 0 | 1 0 | 1>0"} {
			unorderedIs(t, planOf(c[0], rules), "")
			planIs(t, planOf(c[0], rules), want)
			planIs(t, strictly(planOf(c[0], rules)), want)
		}
	}
}

// A system with commands ends its stage for those that a rule has behind it, and
// for nobody else.
func TestCommandsEndAStage(t *testing.T) {
	for _, body := range []string{"spawn", "make", "kill", "put", "drop", "breed"} {
		for _, other := range []string{"", "look", "heal", "mind", "count", "make", "kill", "put"} {
			pair := "a:" + body + " b:" + other
			planIs(t, planOf(pair, "a>b"), "0 1 | 0 1 | ")
			planIs(t, planOf(pair, ""), "0 0 | 0 1 | ")
			if !impl.Commands(effOf(planEffects[other])) {
				planIs(t, planOf(pair, "b>a"), "0 0 | 1 0 | 1>0")
			} else {
				planIs(t, planOf(pair, "b>a"), "1 0 | 1 0 | ")
			}
		}
	}
}

// Two that are not apart wait within the stage, whoever has commands: only
// constraints make stages.
func TestOnlyConstraintsMakeStages(t *testing.T) {
	for _, pair := range []string{"a:reap b:look", "a:reap b:heal", "a:reap b:reap", "a:look b:reap", "a:all b:look", "a:all b:all", "a:tell b:all", "a:all b:rate"} {
		planIs(t, planOf(pair, ""), "0 0 | 0 1 | 0>1")
	}
	planIs(t, planOf("a:reap b:look", "a>b"), "0 1 | 0 1 | ")
	planIs(t, planOf("a:reap b:look", "b>a"), "0 0 | 1 0 | 1>0")
	planIs(t, planOf("a:reap b:reap c:reap", ""), "0 0 0 | 0 1 2 | 0>1 1>2")
	planIs(t, planOf("a:reap b:reap c:reap", "c>a"), "1 0 0 | 1 2 0 | 1>2")
	planIs(t, planOf("a:reap b:reap c:reap", "a>b"), "0 1 0 | 0 2 1 | 0>2")
}

func TestChainsOfSystems(t *testing.T) {
	for _, c := range [][3]string{
		{"a b c d", "a>b b>c c>d", "0 0 0 0 | 0 1 2 3 | 0>1 1>2 2>3"},
		{"a b c d", "d>c c>b b>a", "0 0 0 0 | 3 2 1 0 | 1>0 2>1 3>2"},
		{"a:make b:make c:make d:make", "a>b b>c c>d", "0 1 2 3 | 0 1 2 3 | "},
		{"a:make b:make c:make d:make", "d>c c>b b>a", "3 2 1 0 | 3 2 1 0 | "},
		{"a:make b c d", "a>b b>c c>d", "0 1 1 1 | 0 1 2 3 | 1>2 2>3"},
		{"a b:make c d", "a>b b>c c>d", "0 0 1 1 | 0 1 2 3 | 0>1 2>3"},
		{"a b c:make d", "a>b b>c c>d", "0 0 0 1 | 0 1 2 3 | 0>1 1>2"},
		{"a b c d:make", "a>b b>c c>d", "0 0 0 0 | 0 1 2 3 | 0>1 1>2 2>3"},
		{"a:make b c:kill d", "a>b b>c c>d", "0 1 1 2 | 0 1 2 3 | 1>2"},
		{"a:spawn b:look c:heal d:rate", "a>b c>d", "0 1 0 0 | 0 2 3 1 | 2>3"},
		{"a b:put c d", "a>b a>c b>d c>d", "0 0 0 1 | 0 1 2 3 | 0>1 0>2"},
		{"a b:put c:put d", "a>b a>c b>d c>d", "0 0 0 1 | 0 1 2 3 | 0>1 0>2"},
		{"a:put b c d", "a>b a>c b>d c>d", "0 1 1 1 | 0 1 2 3 | 1>3 2>3"},
		{"a:put b:put c d", "a>c b>c c>d a>d", "0 0 1 1 | 0 1 2 3 | 2>3"},
		{"a:put b:put c d", "a>b b>d c>d", "0 1 0 2 | 0 2 1 3 | "},
	} {
		planIs(t, planOf(c[0], c[1]), c[2])
	}
}

// The way with the most commands tells the stage, whichever rule stands first.
func TestStageIsThatOfTheLongestWay(t *testing.T) {
	for _, rules := range []string{"a>d a>b b>c c>d", "a>b b>c c>d a>d", "c>d b>c a>b a>d"} {
		planIs(t, planOf("a:make b:make c:make d", rules), "0 1 2 3 | 0 1 2 3 | ")
		planIs(t, planOf("a b:make c d", rules), "0 0 1 1 | 0 1 2 3 | 0>1 2>3")
	}
	planIs(t, planOf("a:make b c d:make e", "a>b b>e c>e d>c"), "0 1 1 0 1 | 0 3 1 2 4 | 1>4 2>4")
	planIs(t, planOf("a:make b c:make d:make e", "a>e c>d d>e b>e"), "0 0 0 1 2 | 0 1 2 3 4 | ")
}

func TestSetsInPlans(t *testing.T) {
	for _, c := range [][3]string{
		{"a::One b::One c", "One>c", "0 0 0 | 0 1 2 | 0>2 1>2"},
		{"a::One b::One c", "c>One", "0 0 0 | 2 0 1 | 2>0 2>1"},
		{"a:make:One b::One c::Two d::Two", "One>Two", "0 0 1 1 | 0 1 2 3 | "},
		{"a:make:One b::One c::Two d::Two", "Two>One", "0 0 0 0 | 2 3 0 1 | 2>0 2>1 3>0 3>1"},
		{"a::One b::One c:make:Two d::Two", "Two>One", "1 1 0 0 | 2 3 0 1 | "},
		{"a::One b::One,Two c::Two", "One>Two", "0 0 0 | 0 1 2 | 0>1 1>2"},
		{"a::One b:make:One,Two c::Two", "One>Two", "0 0 1 | 0 1 2 | 0>1"},
		{"a:make:One b:make:One,Two c::Two", "One>Two", "0 1 2 | 0 1 2 | "},
		{"a::One b::One c::One", "b>One", "0 0 0 | 1 0 2 | 1>0 1>2"},
		{"a::One b::One c::One", "One>b", "0 0 0 | 0 2 1 | 0>1 2>1"},
		{"a::One b:make:One c::One", "b>One", "1 0 1 | 1 0 2 | "},
		{"a::One b:make:One c::One", "One>b", "0 0 0 | 0 2 1 | 0>1 2>1"},
		{"a::One,Two", "One>Two", "0 | 0 | "},
		{"a::One,Two b::Two", "One>Two", "0 0 | 0 1 | 0>1"},
	} {
		planIs(t, planOf(c[0], c[1]), c[2])
		unorderedIs(t, planOf(c[0], c[1]), pairsText(plainUnordered(planOf(c[0], c[1]))))
	}
	unorderedIs(t, planOf("a:heal:One b:look c:heal:One", "One>b"), "0 2 comp 0")
	unorderedIs(t, planOf("a:heal:One b:look:One c:heal:One", "b>One"), "0 2 comp 0")
}

// By stage first; within a stage as the canonical order of all constraints has
// them, not as one of the stage alone would.
func TestOrderByStage(t *testing.T) {
	for _, c := range [][3]string{
		{"a:make b c d", "a>b d>c", "0 1 0 0 | 0 3 2 1 | 3>2"},
		{"a:make b:make c d e", "e>a a>b", "0 1 0 0 0 | 2 3 4 0 1 | 4>0"},
		{"a:make b c d", "a>b a>c a>d d>b", "0 1 1 1 | 0 2 3 1 | 3>1"},
		{"a:make b c d:make", "d>b a>c", "0 1 1 0 | 0 3 2 1 | "},
		{"a:make b:reset c:reset d:make", "d>b a>c", "0 1 1 0 | 0 3 2 1 | 2>1"},
		{"a:make b:reset c:reset d:make e:reset", "d>b a>c", "0 1 1 0 0 | 0 3 4 2 1 | 2>1"},
		{"a b c:make d:make e f", "c>a d>b b>e f>d", "1 1 0 0 1 0 | 2 5 3 0 1 4 | 1>4 5>3"},
	} {
		planIs(t, planOf(c[0], c[1]), c[2])
	}
}

// The waits by constraints and those of clashes are reduced together; all stages
// stand in one list, by From and To.
func TestEdgesAreReducedTogether(t *testing.T) {
	for _, c := range [][3]string{
		{"a:heal b:heal c:heal", "", "0 0 0 | 0 1 2 | 0>1 1>2"},
		{"a:heal b:heal c:heal", "c>a", "0 0 0 | 1 2 0 | 1>2 2>0"},
		{"a:heal b c:heal", "a>b b>c", "0 0 0 | 0 1 2 | 0>1 1>2"},
		{"a:heal b:look c:look", "", "0 0 0 | 0 1 2 | 0>1 0>2"},
		{"a:look b:look c:heal", "", "0 0 0 | 0 1 2 | 0>2 1>2"},
		{"a:look b:heal c:look", "", "0 0 0 | 0 1 2 | 0>1 1>2"},
		{"a:look b:heal c:look", "a>c", "0 0 0 | 0 1 2 | 0>1 1>2"},
		{"a:look b:heal c:look", "c>b", "0 0 0 | 0 2 1 | 0>1 2>1"},
		{"a:heal b:count c:all", "a>b", "0 0 0 | 0 1 2 | 0>1 1>2"},
		{"a:heal b:count c:all", "", "0 0 0 | 0 1 2 | 0>2 1>2"},
		{"a:heal b:count c:look d:rate", "a>d", "0 0 0 0 | 0 1 2 3 | 0>2 0>3 1>3"},
		{"a:heal b:heal c:make d:heal e:heal", "c>a c>b", "1 1 0 0 0 | 2 3 4 0 1 | 0>1 3>4"},
		{"a:heal b:heal c:make d:heal e:heal", "c>a c>b e>d", "1 1 0 0 0 | 2 4 3 0 1 | 0>1 4>3"},
	} {
		planIs(t, planOf(c[0], c[1]), c[2])
	}
}

func TestUnorderedByHand(t *testing.T) {
	for _, c := range [][3]string{
		{"a:heal b:look c:heal d:count e:rate", "", "0 1 comp 0, 0 2 comp 0, 1 2 comp 0, 3 4 res 0"},
		{"a:heal b:look c:heal d:count e:rate", "a>b", "0 2 comp 0, 1 2 comp 0, 3 4 res 0"},
		{"a:heal b:look c:heal d:count e:rate", "b>a", "0 2 comp 0, 1 2 comp 0, 3 4 res 0"},
		{"a:heal b:look c:heal d:count e:rate", "c>b b>a", "3 4 res 0"},
		{"a:heal b:look c:heal d:count e:rate", "c>b b>a d>e", ""},
		{"a:heal b:look c:heal d:count e:rate", "c>d d>a", "0 1 comp 0, 1 2 comp 0, 3 4 res 0"},
		{"a:all b:all", "", "0 1 comp 0"},
		{"a:all b:mind", "", "0 1 cmd 4"},
		{"a:all b:count", "", "0 1 res 0"},
		{"a:all b:note", "", "0 1 evt 0"},
		{"a:all b:heal", "", "0 1 comp 0"},
		{"a:all b:lack", "", "0 1 cmd 4"},
		{"a:reap b:look", "", "0 1 comp 0"},
		{"a:reap b:mind", "", "0 1 cmd 4"},
		{"a:kill b:lack", "", "0 1 cmd 3"},
		{"a:kill b:kill", "", "0 1 cmd 0"},
		{"a:kill b:cool c:kill", "", "0 1 cmd 5, 0 2 cmd 0, 1 2 cmd 5"},
		{"a:make b:make c:put d:drop", "", "0 1 cmd 0, 2 3 cmd 4"},
		{"a:make b:breed c:look d:mind", "", "0 1 cmd 0, 0 2 cmd 0, 1 2 cmd 0"},
		{"a:spawn b:spawn c:kill d:look", "", "2 3 cmd 0"},
		{"a:spawn b:look", "", ""},
	} {
		unorderedIs(t, planOf(c[0], c[1]), c[2])
		if c[2] == "" {
			planDone(t, strictly(planOf(c[0], c[1])))
		}
	}
}

// How many columns there are is what the Reg has, whatever the texts name.
func TestUnorderedByTheRegsColumns(t *testing.T) {
	s := planOf("a:kill b:kill c:kill", "")
	unorderedIs(t, s, "0 1 cmd 0, 0 2 cmd 0, 1 2 cmd 0")
	s.Text = "system a { each with Up { kill; } } system b { each with Up { kill; } } system c { $Wind = 1.5; }"
	unorderedIs(t, s, "0 1 cmd 0")
	s.Text = "system a { each with Up { kill; } } system b { each with Up { } } system c { each with Up { } }"
	unorderedIs(t, s, "0 1 cmd 7, 0 2 cmd 7")
	s.Reg.Comps = s.Reg.Comps[7:]
	unorderedIs(t, s, "0 1 cmd 0, 0 2 cmd 0")
	for n := 8; n <= impl.MaxDecls; n++ {
		s.Reg = checkReg()
		for _, name := range []string{"Va", "Vb", "Vc", "Vd"}[:n-8] {
			s.Reg.Comps = append(s.Reg.Comps, decl(name, impl.KInt))
		}
		last := s.Reg.Comps[n-1].Name
		s.Text = "system a { each with Hp { kill; } } system b { each with " + last + " { } } system c { }"
		unorderedIs(t, s, "0 1 cmd "+numbersText([]int{n - 1}))
	}
}

func TestEffectsInPlans(t *testing.T) {
	for _, names := range [][]string{{"look", "heal", "count", "tell"}, {"make", "kill", "put", "drop", "all"}, {"tally", "breed", "", "rate"}, bodyNames()[:16], bodyNames()[5:]} {
		var words, want []string
		for i, body := range names {
			words = append(words, schedNames[i]+":"+body)
			want = append(want, planEffects[body])
		}
		for _, rules := range []string{"", "a>b", "d>a", "b>a c>b"} {
			if p := planDone(t, planOf(strings.Join(words, " "), rules)); effectsText(p.Effects) != strings.Join(want, "; ") {
				t.Errorf("Effects of %q: %q", names, effectsText(p.Effects))
			}
		}
	}
}

// Effects stand as the list of the systems has them, in whatever order the text
// tells them, and whoever else is in it.
func TestPlansByTheListOfSystems(t *testing.T) {
	s := planOf("a:heal b:make c:count d:reap", "b>a")
	planIs(t, s, "1 0 0 0 | 1 2 3 0 | ")
	turned := turnedBy(s, func(s *impl.Sched) { slices.Reverse(s.Systems) })
	planIs(t, turned, "0 0 0 1 | 0 1 2 3 | ")
	if p := planDone(t, turned); effectsText(p.Effects) != "Write 0 Match 0 Kills; ReadRes 0 WriteRes 0; Add 0 Spawns; Read 0 Write 0 Match 0" {
		t.Error("Effects:", effectsText(p.Effects))
	}
	few := turnedBy(s, func(s *impl.Sched) { s.Systems = s.Systems[:2] })
	planIs(t, few, "1 0 | 1 0 | ")
	unorderedIs(t, few, "")
}

// Gates say when a system runs, not where it stands.
func TestGatesDoNotChangePlans(t *testing.T) {
	plain := planOf("a:heal:One b:make:One c:look d:heal", "One>c a>b")
	want := planDone(t, plain)
	for _, gate := range schedGates {
		p := planDone(t, turnedBy(plain, func(s *impl.Sched) {
			s.Systems[1].When, s.Systems[1].Every, s.Systems[1].Gate = "Over", 9, gate
			s.Systems[3].Gate = gate
		}))
		if !impl.PlanSame(p, want) {
			t.Error("gate", gate, wholePlanText(p))
		}
	}
}

func TestPlansManyTimes(t *testing.T) {
	s := planOf("a:make:One b:heal:One,Two c:reap:Two d:look e:count:One f:rate g:tell h:note:Two", "One>d f>Two a>b g>a")
	want, pairs := wholePlanText(planDone(t, s)), pairsText(impl.Unordered(s))
	if pairs == "" {
		t.Fatal("nothing is unordered")
	}
	for range 100 {
		p, code, at := impl.MakePlan(s)
		if wholePlanText(p) != want || code != impl.SchDone || at != 0 {
			t.Fatal("MakePlan:", wholePlanText(p), code, at)
		}
		if got := pairsText(impl.Unordered(s)); got != pairs {
			t.Fatal("Unordered:", got)
		}
		planRefused(t, "a strict one", strictly(s), impl.SchClash, impl.Unordered(s)[0].A)
	}
}
