package tests

import (
	"fmt"
	"slices"
	"strings"
	"testing"

	"loop.example/g00070/impl"
)

// planBodies is what the systems of planOf may do, by checkReg.
var planBodies = map[string]string{
	"":      "",
	"look":  "each with Hp { let x = .Hp; }",
	"heal":  "each with Hp { .Hp = .Hp + 1; }",
	"reset": "each with Hp { .Hp = 1; }",
	"cool":  "each with Heat { .Heat = 0.5; }",
	"mind":  "each with Mp { }",
	"lack":  "each with On without Mp { }",
	"count": "$Score = $Score + 1;",
	"rate":  "let x = $Score;",
	"wind":  "$Wind = 1.5;",
	"tell":  "emit Hit 1;",
	"note":  "hear Hit as h { }",
	"spawn": "spawn();",
	"make":  "spawn(Hp = 1);",
	"kill":  "each with On { kill; }",
	"put":   "each with On { put Mp = 1; }",
	"drop":  "each with On { drop Mp; }",
	"reap":  "each with Hp { .Hp = 0; kill; }",
	"tally": "do more(1);",
	"breed": "do born();",
	"all":   "each with Mp, Hp { .Mp = 1; .Hp = 1; } $Score = 1; emit Hit 1; spawn(Mp = 1);",
}

// planEffects is what they touch.
var planEffects = map[string]string{
	"":      "",
	"look":  "Read 0 Match 0",
	"heal":  "Read 0 Write 0 Match 0",
	"reset": "Write 0 Match 0",
	"cool":  "Write 5 Match 5",
	"mind":  "Match 4",
	"lack":  "Match 3 4",
	"count": "ReadRes 0 WriteRes 0",
	"rate":  "ReadRes 0",
	"wind":  "WriteRes 1",
	"tell":  "Send 0",
	"note":  "Hear 0",
	"spawn": "Spawns",
	"make":  "Add 0 Spawns",
	"kill":  "Match 3 Kills",
	"put":   "Match 3 Add 4",
	"drop":  "Match 3 Add 4",
	"reap":  "Write 0 Match 0 Kills",
	"tally": "ReadRes 0 WriteRes 0",
	"breed": "Add 0 Spawns",
	"all":   "Write 0 4 Match 0 4 WriteRes 0 Send 0 Add 4 Spawns",
}

const planFns = "fn more(n int) int { $Score = $Score + n; return n; }\nfn born() int { spawn(Hp = 1); return 1; }\n"

// bodyNames is the names of planBodies, sorted.
func bodyNames() []string {
	var names []string
	for name := range planBodies {
		names = append(names, name)
	}
	slices.Sort(names)
	return names
}

// planOf reads a schedule such as "a:heal:One,Two b:look c", with the rules
// "One>c a>Two": the names of the systems, what they do, and their sets.
func planOf(systems, rules string) impl.Sched {
	var words []string
	text := planFns
	for _, word := range strings.Fields(systems) {
		parts := append(strings.Split(word, ":"), "", "")
		body, ok := planBodies[parts[1]]
		if !ok {
			panic(word)
		}
		text += "system " + parts[0] + " { " + body + " }\n"
		if parts[2] != "" {
			parts[0] += ":" + parts[2]
		}
		words = append(words, parts[0])
	}
	s := schedOf(strings.Join(words, " "), rules)
	s.Text = text
	return s
}

// strictly is the same schedule with Strict.
func strictly(s impl.Sched) impl.Sched {
	s.Strict = true
	return s
}

// allDo has the first n systems, each of which does the same.
func allDo(n int, body string) string {
	var words []string
	for _, name := range schedNames[:n] {
		words = append(words, name+":"+body)
	}
	return strings.Join(words, " ")
}

// chainOf is a rule from each of the names to the next one.
func chainOf(names ...string) string {
	var words []string
	for i := 1; i < len(names); i++ {
		words = append(words, names[i-1]+">"+names[i])
	}
	return strings.Join(words, " ")
}

// planText tells a plan but for its effects, as "0 0 1 | 0 1 2 | 0>1".
func planText(p impl.Plan) string {
	return numbersText(p.Stage) + " | " + numbersText(p.Order) + " | " + edgesText(p.Edges)
}

// pairsText tells pairs as "0 1 comp 0, 2 3 res 1".
func pairsText(list []impl.Pair) string {
	var words []string
	for _, p := range list {
		words = append(words, fmt.Sprintf("%d %d %s", p.A, p.B, clashText([]impl.Clash{p.Clash})))
	}
	return strings.Join(words, ", ")
}

func effectsText(list []impl.Effect) string {
	var words []string
	for _, e := range list {
		words = append(words, effText(e))
	}
	return strings.Join(words, "; ")
}

// wholePlanText tells all of a plan.
func wholePlanText(p impl.Plan) string { return planText(p) + " | " + effectsText(p.Effects) }

// planIs asks for a plan that is told so, and for the same one where the
// schedule is strict and nothing is unordered.
func planIs(t *testing.T, s impl.Sched, want string) {
	t.Helper()
	p := planDone(t, s)
	if got := planText(p); got != want {
		t.Errorf("MakePlan: %q, not %q: %s", got, want, schedLine(s))
	}
	if len(impl.Unordered(s)) == 0 {
		if strict := planDone(t, strictly(s)); !impl.PlanSame(p, strict) {
			t.Errorf("MakePlan of a strict one: %q, not %q: %s", planText(strict), want, schedLine(s))
		}
	}
}

// unorderedIs asks for what Unordered tells, strict or not, and for the refusal
// of a strict one.
func unorderedIs(t *testing.T, s impl.Sched, want string) {
	t.Helper()
	for _, q := range []impl.Sched{s, strictly(s)} {
		if got := pairsText(impl.Unordered(q)); got != want {
			t.Errorf("Unordered: %q, not %q: %s", got, want, schedLine(s))
		}
	}
	if want != "" {
		var first int
		fmt.Sscan(want, &first)
		planRefused(t, "a strict one", strictly(s), impl.SchClash, first)
	}
}

// planDone asks for a plan, holds it against the plain one and against the
// promise.
func planDone(t *testing.T, s impl.Sched) impl.Plan {
	t.Helper()
	p, code, at := impl.MakePlan(s)
	if code != impl.SchDone || at != 0 {
		t.Fatalf("MakePlan: %d %d: %s", code, at, schedLine(s))
	}
	if code, at := plainRefusal(s); code != impl.SchDone {
		t.Fatalf("MakePlan tells a plan, not %d %d: %s", code, at, schedLine(s))
	}
	if got, want := wholePlanText(p), wholePlanText(plainPlan(s)); got != want {
		t.Fatalf("MakePlan: %q, not %q: %s", got, want, schedLine(s))
	}
	if got, want := pairsText(impl.Unordered(s)), pairsText(plainUnordered(s)); got != want {
		t.Fatalf("Unordered: %q, not %q: %s", got, want, schedLine(s))
	}
	planKeeps(t, s, p)
	return p
}

// planRefused asks for a code and its number, without a plan.
func planRefused(t *testing.T, what string, s impl.Sched, wantCode, wantAt int) {
	t.Helper()
	p, code, at := impl.MakePlan(s)
	if code != wantCode || at != wantAt {
		t.Errorf("%s: MakePlan %d %d, not %d %d: %s", what, code, at, wantCode, wantAt, schedLine(s))
	}
	if len(p.Stage) != 0 || len(p.Order) != 0 || len(p.Edges) != 0 || len(p.Effects) != 0 {
		t.Errorf("%s: MakePlan refuses and tells %q: %s", what, wholePlanText(p), schedLine(s))
	}
	pairs := impl.Unordered(s)
	if wantCode != impl.SchClash && len(pairs) != 0 {
		t.Errorf("%s: Unordered %q: %s", what, pairsText(pairs), schedLine(s))
	}
	if wantCode == impl.SchClash && (len(pairs) == 0 || pairs[0].A != wantAt || !s.Strict) {
		t.Errorf("%s: refused, and Unordered %q: %s", what, pairsText(pairs), schedLine(s))
	}
}

// planKeeps asks for what follows of a plan, in the words of the chapter's last
// paragraph.
func planKeeps(t *testing.T, s impl.Sched, p impl.Plan) {
	t.Helper()
	n, edges := len(s.Systems), impl.Constraints(s)
	if !impl.LinearOk(n, edges, p.Order) || !impl.LinearOk(n, p.Edges, p.Order) {
		t.Fatalf("Order does not keep Constraints and Edges: %q: %s", planText(p), schedLine(s))
	}
	for a := range n {
		for b := range n {
			ahead := impl.Ahead(n, edges, a, b)
			if ahead && impl.Commands(p.Effects[a]) && p.Stage[a] >= p.Stage[b] {
				t.Fatalf("no stage ends between %d and %d: %q: %s", a, b, planText(p), schedLine(s))
			}
			if a == b || p.Stage[a] != p.Stage[b] {
				continue
			}
			waits, waited := impl.Ahead(n, p.Edges, a, b), impl.Ahead(n, p.Edges, b, a)
			if !waits && !waited && !impl.Apart(p.Effects[a], p.Effects[b]) {
				t.Fatalf("%d and %d do not wait, and are not apart: %q: %s", a, b, planText(p), schedLine(s))
			}
			if ahead && !waits {
				t.Fatalf("%d does not wait for %d: %q: %s", b, a, planText(p), schedLine(s))
			}
		}
	}
	for _, e := range p.Edges {
		if p.Stage[e.From] != p.Stage[e.To] {
			t.Fatalf("%v leads to another stage: %q: %s", e, planText(p), schedLine(s))
		}
	}
	for stage := range impl.Stages(p) {
		if !slices.Contains(p.Stage, stage) {
			t.Fatalf("nobody is in the stage %d: %q: %s", stage, planText(p), schedLine(s))
		}
	}
	if want := len(slices.Compact(slices.Sorted(slices.Values(p.Stage)))); impl.Stages(p) != want {
		t.Fatalf("Stages: %d, not %d: %q: %s", impl.Stages(p), want, planText(p), schedLine(s))
	}
}

// plainGraph is the systems of a right schedule with the edges of all rules,
// however many they are.
func plainGraph(s impl.Sched) graph {
	g := graph{n: len(s.Systems)}
	for _, rule := range s.Rules {
		for _, from := range plainMembers(s, rule.Before) {
			for _, to := range plainMembers(s, rule.After) {
				if from != to && !g.hasEdge(from, to) {
					g.edges = append(g.edges, impl.Edge{From: from, To: to})
				}
			}
		}
	}
	return g
}

// plainEffects is found by a tally of the nodes of the text.
func plainEffects(s impl.Sched) []impl.Effect {
	x, _, _ := impl.Parse(s.Text)
	a := tally{newAudit(s.Reg, x)}
	var list []impl.Effect
	for _, system := range s.Systems {
		top := slices.IndexFunc(x.Tops, func(top int) bool { return x.Nodes[top].Text == system.Name })
		list = append(list, a.effect(x.Tops[top]))
	}
	return list
}

// plainRefusal tells why there is no plan, asked one by one as the document has
// them.
func plainRefusal(s impl.Sched) (int, int) {
	if code, at := plainSchedOk(s); code != impl.SchDone {
		return code, at
	}
	g := plainGraph(s)
	if len(g.edges) > impl.MaxEdges {
		return impl.SchRule, 0
	}
	if _, ok := g.plainCanon(); !ok {
		return impl.SchCircle, g.plainCircle()[0]
	}
	if pairs := plainUnordered(s); s.Strict && len(pairs) > 0 {
		return impl.SchClash, pairs[0].A
	}
	return impl.SchDone, 0
}

func plainUnordered(s impl.Sched) []impl.Pair {
	code, _ := plainSchedOk(s)
	if code != impl.SchDone {
		return nil
	}
	g := plainGraph(s)
	if _, ok := g.plainCanon(); !ok || len(g.edges) > impl.MaxEdges {
		return nil
	}
	effects := plainEffects(s)
	var list []impl.Pair
	for a := range g.n {
		for b := a + 1; b < g.n; b++ {
			if slices.Contains(g.plainBehind(a), b) || slices.Contains(g.plainBehind(b), a) {
				continue
			}
			if clashes := plainStrictly(effects[a], effects[b], len(s.Reg.Comps)); len(clashes) > 0 {
				list = append(list, impl.Pair{A: a, B: b, Clash: clashes[0]})
			}
		}
	}
	return list
}

// plainPlan is for a schedule that is not refused.
func plainPlan(s impl.Sched) impl.Plan {
	g := plainGraph(s)
	p := impl.Plan{Effects: plainEffects(s)}
	p.Stage = plainStages(g, p.Effects)
	canon, _ := g.plainCanon()
	for stage := range impl.MaxSys {
		for _, system := range canon {
			if p.Stage[system] == stage {
				p.Order = append(p.Order, system)
			}
		}
	}
	waits := graph{n: g.n}
	for i, a := range p.Order {
		for _, b := range p.Order[i+1:] {
			clash := len(plainClashes(p.Effects[a], p.Effects[b])) > 0
			if p.Stage[a] == p.Stage[b] && (clash || slices.Contains(g.plainBehind(a), b)) {
				waits.edges = append(waits.edges, impl.Edge{From: a, To: b})
			}
		}
	}
	p.Edges = waits.plainReduced()
	return p
}

// plainStages lets the stages rise until nobody's does any more.
func plainStages(g graph, effects []impl.Effect) []int {
	stage := make([]int, g.n)
	for risen := true; risen; {
		risen = false
		for _, e := range g.edges {
			from, least := effects[e.From], stage[e.From]
			if from.Spawns || from.Kills || len(from.Add) > 0 {
				least++
			}
			if stage[e.To] < least {
				stage[e.To], risen = least, true
			}
		}
	}
	return stage
}
