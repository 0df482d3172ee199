package tests

import (
	"reflect"
	"testing"

	"loop.example/g00070/impl"
)

const allText = `fn twice(n int) int { return n + n; }
system a { each with Hp { .Hp = twice(.Hp) + 2 * 3; emit Hit .Hp; put Pos = pair(0.5, 1.0); } spawn(Hp = $X); }
system b { hear Hit as h { $X = $X + h; } if $Go { $Go = not yes; } else { loop 2 { spawn(); } } }
system c { each with Hp, Pos without On { let s = size(.Pos); if s < 0.25 { kill; } drop Pos; .Hp = pick(1 of Hp); } do twice(4); }
`

// allSched is a schedule of these systems, in which each number, name and list
// has something to say.
func allSched() impl.Sched {
	return impl.Sched{
		Reg: impl.Reg{
			Comps: []impl.Decl{decl("Hp", impl.KInt), decl("Pos", impl.KPair), decl("On", impl.KBool)},
			Ress:  []impl.Decl{decl("X", impl.KInt), decl("Go", impl.KBool)},
			Evts:  []impl.Decl{decl("Hit", impl.KInt)},
		},
		Text: allText,
		Systems: []impl.Sys{
			{Name: "a", Sets: []string{"One"}},
			{Name: "b", Sets: []string{"One", "Two"}, When: "Go"},
			{Name: "c", Every: 10, Gate: impl.GateIn, Phase: 5},
		},
		Rules: []impl.Rule{{Before: "a", After: "Two"}, {Before: "One", After: "c"}},
	}
}

// allGame has things in some tables, one of which is gone, and events.
func allGame(t *testing.T, s impl.Sched) impl.Game {
	t.Helper()
	g, ok := impl.NewGame(s)
	if !ok {
		t.Fatal("no game")
	}
	g.World.Res = []impl.Val{whole(5), yesNo(true)}
	for _, list := range [][]impl.Cell{{cell(0, whole(1))}, {cell(1, pair(1, 2)), cell(0, whole(7))}, {}, {cell(0, whole(2))}} {
		g.World, _, _ = impl.Spawn(s.Reg, g.World, list)
	}
	f, code, _ := impl.FrameOne(s, g, 4, 100)
	if code != impl.SchDone {
		t.Fatal("no frame", code)
	}
	g = f.Game
	g.World, _ = impl.Kill(s.Reg, g.World, impl.Ent{At: 3})
	g.World, _ = impl.Put(s.Reg, g.World, impl.Ent{At: 1}, 2, yesNo(true))
	g.Streams[0], _ = impl.Send(impl.KInt, g.Streams[0], whole(3))
	return g
}

// rightCalls is right arguments of each function, at which it has something to
// tell.
func rightCalls(t *testing.T) map[string]some {
	t.Helper()
	s := allSched()
	r, g := s.Reg, allGame(t, s)
	w := g.World
	x, _, _ := impl.Parse(s.Text)
	p, _ := impl.Compile(r, x, "a")
	state, done := stateOf(g, 0), impl.Mean(r, x, "a", stateOf(g, 0), 100)
	// Cells that are not ascending, so that whoever sorts them where they stand is found.
	e, other := impl.Ent{At: 1}, []impl.Cell{cell(2, yesNo(true)), cell(1, pair(0, 1)), cell(0, whole(1))}
	edges := []impl.Edge{{From: 0, To: 1}, {From: 2, To: 1}, {From: 0, To: 1}}
	circle := []impl.Edge{{From: 0, To: 1}, {From: 1, To: 2}, {From: 2, To: 0}}
	moves := []impl.Move{{Kind: impl.MoveBegin, Task: 2}, {Kind: impl.MoveBegin, Task: 0}, {Kind: impl.MoveEnd, Task: 2}}
	a, _ := impl.Effects(r, x, "a")
	b, _ := impl.Effects(r, x, "b")
	c, _ := impl.Effects(r, x, "c")
	plan, _, _ := impl.MakePlan(s)
	next := allSched()
	next.Systems, next.Rules = next.Systems[:2], nil
	free := allSched()
	free.Rules = nil
	orders := [][]int{{0}, {1}, {2}}
	after, _, _ := impl.FrameOne(s, g, 3, 100)
	calls := map[string][]any{
		"ValOk": {whole(5)}, "ValZero": {impl.KPair}, "ValSame": {pair(1, 2), pair(1, 2)}, "ValOp": {impl.OpAdd, whole(5), whole(6)},
		"ValTurn": {impl.TurnSize, pair(3, 4)}, "ValPair": {float(1), float(2)}, "ValText": {pair(1, 2)},
		"EntsOk": {w.Ents}, "EntLive": {w.Ents, e}, "EntTake": {w.Ents}, "EntGive": {w.Ents, e}, "EntAhead": {w.Ents, 3}, "EntList": {w.Ents},
		"IsWord": {"let"}, "NameOk": {"Hp"}, "RegOk": {r}, "RegFind": {r, impl.SortComp, "Pos"}, "RegKind": {r, impl.SortRes, 1},
		"WorldOk": {r, w}, "NewWorld": {r}, "WorldSame": {w, w}, "Where": {w, e}, "Spawn": {r, w, other}, "Kill": {r, w, e},
		"Put": {r, w, e, 1, pair(3, 4)}, "Drop": {r, w, e, 0}, "Get": {r, w, e, 0}, "Set": {r, w, e, 0, whole(9)}, "Match": {w, []int{0}, []int{1}},
		"CmdOk": {r, impl.Cmd{Kind: impl.CmdSpawn, List: other}}, "Merge": {r, w, [][]impl.Cmd{done.Cmds, {{Kind: impl.CmdKill, Who: e}, {Kind: impl.CmdSpawn, List: other}}}},
		"Targets": {done.Cmds}, "Spawns": {done.Cmds},
		"StreamOk": {impl.KInt, g.Streams[0]}, "Send": {impl.KInt, g.Streams[0], whole(4)}, "Turn": {g.Streams[0]}, "Unread": {g.Streams[0], 1},
		"RealOf": {"12.5"}, "Lex": {s.Text}, "Parse": {s.Text}, "TreeOk": {x}, "Print": {x}, "TreeSame": {x, x},
		"Check": {r, x}, "KindOf": {r, x, 1}, "TopOf": {x, "a"},
		"Effects": {r, x, "a"}, "EffectOk": {r, a}, "EffJoin": {a, b}, "EffWithin": {a, impl.EffJoin(a, b)}, "Commands": {a},
		"Compile": {r, x, "c"}, "StateOk": {r, state}, "Machine": {r, p, state, 100}, "Mean": {r, x, "a", state, 100},
		"GraphOk": {3, edges}, "Canon": {3, edges}, "Circle": {3, circle}, "Ahead": {3, edges, 2, 1}, "Reduced": {3, edges},
		"LinearOk": {3, edges, []int{2, 0, 1}}, "Linears": {3, edges}, "Linear": {3, edges, 1},
		"SchedOk": {s}, "Members": {s, "One"}, "Constraints": {s}, "Clashes": {a, b}, "Strictly": {a, c, 3}, "Apart": {impl.Effect{}, c},
		"Unordered": {free}, "MakePlan": {s}, "PlanSame": {plan, plan}, "Stages": {plan},
		"PoolMoves": {3, edges, 2, moves}, "PoolRun": {3, edges, 2, []int{1, 1}}, "Running": {moves}, "Widest": {moves}, "Meet": {3, edges, 2, 0, 2},
		"ClocksOk": {s, g.Clocks}, "Times": {s, w, g.Clocks, 7},
		"NewGame": {s}, "GameOk": {s, g}, "Task": {s, g, 0, 2, 100}, "FrameOne": {s, g, 9, 100},
		"FrameSide": {s, g, 9, 100, 2, []int{1, 0}}, "FrameIn": {s, g, 9, 100, orders}, "Stray": {s, g, after.Game, 2},
		"Change": {s, next, g}, "Play": {s, g, []impl.Beat{beat(1, 2, 1, 1), beat(9, 1)}},
		"Fold": {x}, "Reaches": {r, x, "a"}, "Prune": {r, x, "b"}, "Sizes": {x},
		"Desk": {"comp Hp int\ntext 1\nsystem a { each with Hp { .Hp = .Hp + 1; } }\nsystem a\nplan\nstart\nspawn Hp\nframe 1 1 1\nshow\nfly\n"},
	}
	return valuesOf(calls)
}

func valuesOf(calls map[string][]any) map[string]some {
	all := map[string]some{}
	for name, args := range calls {
		for _, arg := range args {
			all[name] = append(all[name], reflect.ValueOf(arg))
		}
	}
	return all
}

// At right arguments each function has something to tell that is not zero.
func TestAllAtRightArguments(t *testing.T) {
	d := dice(282)
	calls := rightCalls(t)
	for _, name := range allNames() {
		args, ok := calls[name]
		if !ok {
			t.Error(name, "is not called")
			continue
		}
		answer := calledSharing(t, &d, name, args)
		zero := true
		for _, v := range answer {
			zero = zero && shortOf(v) == "-"
		}
		if zero != (name == "SchedOk") {
			t.Error(name, "tells", answer.short())
		}
	}
}

// nothingTold is what is told at the zero value of each argument, where that is
// not all zero, too: an empty Reg, world, text, graph and schedule are right.
var nothingTold = map[string]string{
	"Apart": "true", "Canon": "- true", "Change": "- true", "Check": "- -1", "ClocksOk": "true", "Drop": "- 1", "EffWithin": "true", "EffectOk": "true",
	"EntAhead": "- true", "EntGive": "- 2", "EntTake": "{Gens:[-]} - -", "EntsOk": "true", "Fold": "- true",
	"FrameIn": "{Game:{Clocks:{Begun:true}}} - -", "FrameOne": "{Game:{Clocks:{Begun:true}}} - -", "FrameSide": "- - 4 2",
	"GameOk": "true", "GraphOk": "true", "Kill": "- 2", "Linear": "- true", "LinearOk": "true", "Linears": "1", "Machine": "{Fault:5}", "Mean": "{Fault:1}",
	"NewGame": "- true", "PlanSame": "true", "Play": "- - -1", "Print": "- true", "Put": "- 1", "RegFind": "-1", "RegOk": "true", "Set": "- 1",
	"Spawn": "{Ents:{Gens:[-]} Tables:[{Rows:[-]}]} - -", "StateOk": "true", "StreamOk": "true", "Times": "- {Begun:true} true", "TopOf": "-1",
	"TreeOk": "true", "TreeSame": "true", "ValOp": "- 1", "ValSame": "true", "ValText": "?", "ValTurn": "- 1", "Where": "-1 -1", "WorldOk": "true", "WorldSame": "true",
}

func TestAllAtNothing(t *testing.T) {
	d := dice(283)
	for _, name := range allNames() {
		of := reflect.TypeOf(allCalls[name])
		var args some
		for i := range of.NumIn() {
			args = append(args, reflect.Zero(of.In(i)))
		}
		want := nothingTold[name]
		if want == "" {
			want = "-"
			for range of.NumOut() - 1 {
				want += " -"
			}
		}
		if got := calledSharing(t, &d, name, args).short(); got != want {
			t.Errorf("%s tells %s, not %s", name, got, want)
		}
	}
}
