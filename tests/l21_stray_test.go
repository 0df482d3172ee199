package tests

import (
	"fmt"
	"testing"

	"loop.example/g00070/impl"
)

// strays has three systems, of which the first one writes one of each sort, the
// second one the other ones, and the third one nothing.
func strays() (impl.Sched, impl.Game) {
	s := staged("",
		"a: each with Hp, Mass { .Hp = 1; .Mass = 1.0; } $Score = 1; emit Hit 1; hear Burn as b { }",
		"b: each with Mp, Heat { .Mp = 1; .Heat = 0.5; } $Wind = 1.5; emit Burn 0.5; hear Hit as h { }",
		"c: each with Hp, Mp { let q = .Hp; } let q = $Score; each with On { kill; }")
	return s, gameOf(s, runState())
}

// Just one thing is another one: within the effect of a, of b, of none.
func TestStrayOfOneChange(t *testing.T) {
	s, g := strays()
	for _, c := range []struct {
		what string
		turn func(g *impl.Game)
		want [3]bool // of a, b, c
	}{
		{"nothing", func(g *impl.Game) {}, [3]bool{false, false, false}},
		{"a value of Hp", func(g *impl.Game) { g.World.Tables[0].Cells[0][1] = whole(31) }, [3]bool{false, true, true}},
		{"a value of Hp in the last table", func(g *impl.Game) { g.World.Tables[4].Cells[0][0] = whole(41) }, [3]bool{false, true, true}},
		{"a value of Mass", func(g *impl.Game) { g.World.Tables[2].Cells[1][0] = float(1) }, [3]bool{false, true, true}},
		{"a value of Mp", func(g *impl.Game) { g.World.Tables[0].Cells[1][0] = whole(2) }, [3]bool{true, false, true}},
		{"a value of Pos", func(g *impl.Game) { g.World.Tables[2].Cells[2][0] = pair(5, 5) }, [3]bool{true, true, true}},
		{"a value of On", func(g *impl.Game) { g.World.Tables[2].Cells[3][0] = yesNo(false) }, [3]bool{true, true, true}},
		{"Score", func(g *impl.Game) { g.World.Res[0] = whole(1001) }, [3]bool{false, true, true}},
		{"Wind", func(g *impl.Game) { g.World.Res[1] = float(1) }, [3]bool{true, false, true}},
		{"Home", func(g *impl.Game) { g.World.Res[2] = pair(0, 2) }, [3]bool{true, true, true}},
		{"Over", func(g *impl.Game) { g.World.Res[3] = yesNo(true) }, [3]bool{true, true, true}},
		{"New of Hit, longer", func(g *impl.Game) { g.Streams[0].New = numbered(7, 2) }, [3]bool{false, true, true}},
		{"New of Hit, shorter", func(g *impl.Game) { g.Streams[0].New = nil }, [3]bool{false, true, true}},
		{"New of Hit, another one", func(g *impl.Game) { g.Streams[0].New = numbered(8, 1) }, [3]bool{false, true, true}},
		{"New of Burn", func(g *impl.Game) { g.Streams[1].New = []impl.Val{float(1)} }, [3]bool{true, false, true}},
		{"New of Went", func(g *impl.Game) { g.Streams[3].New[0] = yesNo(false) }, [3]bool{true, true, true}},
		{"Old of Hit", func(g *impl.Game) { g.Streams[0].Old = numbered(1, 5) }, [3]bool{false, false, false}},
		{"First of Hit", func(g *impl.Game) { g.Streams[0].First = 99 }, [3]bool{false, false, false}},
		{"all Olds and Firsts", func(g *impl.Game) {
			for i := range g.Streams {
				g.Streams[i].Old, g.Streams[i].First = nil, 0
			}
		}, [3]bool{false, false, false}},
		{"a's cursor of Hit", func(g *impl.Game) { g.Cursors[0][0] = 7 }, [3]bool{true, true, true}},
		{"a's cursor of Burn", func(g *impl.Game) { g.Cursors[0][1] = 7 }, [3]bool{false, true, true}},
		{"b's cursor of Hit", func(g *impl.Game) { g.Cursors[1][0] = -7 }, [3]bool{true, false, true}},
		{"b's cursor of Burn", func(g *impl.Game) { g.Cursors[1][1] = 7 }, [3]bool{true, true, true}},
		{"c's cursor of Hit", func(g *impl.Game) { g.Cursors[2][0] = 0 }, [3]bool{true, true, true}},
		{"c's last cursor", func(g *impl.Game) { g.Cursors[2][3] = leastInt }, [3]bool{true, true, true}},
		{"the clocks", func(g *impl.Game) { g.Clocks = behind(7, 1, 2, 3) }, [3]bool{false, false, false}},
		{"all that a may", func(g *impl.Game) {
			g.World.Tables[0].Cells[0][0], g.World.Tables[2].Cells[1][0], g.World.Res[0], g.Streams[0].New, g.Cursors[0][1] = whole(0), float(0), whole(0), nil, 0
			g.Cursors[0][1] = 1
		}, [3]bool{false, true, true}},
		{"what a may, and one more", func(g *impl.Game) {
			g.World.Tables[0].Cells[0][0], g.World.Res[0], g.World.Res[3] = whole(0), whole(0), yesNo(true)
		}, [3]bool{true, true, true}},
	} {
		after := gameBy(g, c.turn)
		for system, want := range c.want {
			strayIs(t, c.what, s, g, after, system, want)
			strayIs(t, c.what+", back", s, after, g, system, want)
		}
	}
}

// A thing that is live in one of the two games alone, and a column that it has
// in one alone, are nothing that is held.
func TestStrayOfOtherThings(t *testing.T) {
	s, g := strays()
	r := s.Reg
	change := func(of func(w impl.World) (impl.World, int)) func(g *impl.Game) {
		return func(g *impl.Game) {
			w, code := of(g.World)
			if code != impl.WDone {
				t.Fatal("code", code)
			}
			g.World = cloneWorld(w)
		}
	}
	for _, c := range []struct {
		what string
		turn func(g *impl.Game)
		want [3]bool
	}{
		{"one killed", change(func(w impl.World) (impl.World, int) { return impl.Kill(r, w, ent(5, 2)) }), [3]bool{}},
		{"the first one killed", change(func(w impl.World) (impl.World, int) { return impl.Kill(r, w, ent(0, 4)) }), [3]bool{}},
		{"one made", change(func(w impl.World) (impl.World, int) {
			w, _, code := impl.Spawn(r, w, []impl.Cell{cell(0, whole(77)), cell(2, pair(1, 1))})
			return w, code
		}), [3]bool{}},
		{"one in the place of another one, of another generation", change(func(w impl.World) (impl.World, int) {
			w, _ = impl.Kill(r, w, ent(0, 4))
			w, _, code := impl.Spawn(r, w, []impl.Cell{cell(0, whole(77)), cell(4, whole(77))})
			return w, code
		}), [3]bool{}},
		{"a column more", change(func(w impl.World) (impl.World, int) { return impl.Put(r, w, ent(1, 0), 3, yesNo(true)) }), [3]bool{}},
		{"a column less", change(func(w impl.World) (impl.World, int) { return impl.Drop(r, w, ent(0, 4), 4) }), [3]bool{}},
		{"in another table, with all that it had", change(func(w impl.World) (impl.World, int) { return impl.Put(r, w, ent(0, 4), 7, yesNo(true)) }), [3]bool{}},
		{"in another table, with another Hp", change(func(w impl.World) (impl.World, int) {
			w, _ = impl.Put(r, w, ent(0, 4), 7, yesNo(true))
			return impl.Set(r, w, ent(0, 4), 0, whole(77))
		}), [3]bool{false, true, true}},
		{"in another table, with another Mp", change(func(w impl.World) (impl.World, int) {
			w, _ = impl.Drop(r, w, ent(3, 1), 0)
			return impl.Set(r, w, ent(3, 1), 4, whole(77))
		}), [3]bool{true, false, true}},
		{"a column dropped and put again with another value", change(func(w impl.World) (impl.World, int) {
			w, _ = impl.Drop(r, w, ent(5, 2), 2)
			return impl.Put(r, w, ent(5, 2), 2, pair(0, 0))
		}), [3]bool{true, true, true}},
		{"tables turned about", func(g *impl.Game) {
			g.World.Tables[0], g.World.Tables[4] = g.World.Tables[4], g.World.Tables[0]
		}, [3]bool{}},
		{"rows turned about", func(g *impl.Game) {
			one := g.World.Tables[0]
			one.Rows[0], one.Rows[1] = one.Rows[1], one.Rows[0]
			for _, list := range one.Cells {
				list[0], list[1] = list[1], list[0]
			}
		}, [3]bool{}},
		{"values turned about, not rows", func(g *impl.Game) {
			list := g.World.Tables[0].Cells[0]
			list[0], list[1] = list[1], list[0]
		}, [3]bool{false, true, true}},
		{"all killed", func(g *impl.Game) {
			for _, e := range impl.EntList(g.World.Ents) {
				g.World, _ = impl.Kill(r, g.World, e)
			}
		}, [3]bool{}},
		{"no world", func(g *impl.Game) {
			res := g.World.Res
			g.World = impl.World{Res: res}
		}, [3]bool{}},
		{"a free place more", func(g *impl.Game) {
			g.World.Ents.Gens = append(g.World.Ents.Gens, 8)
			g.World.Ents.Free = append(g.World.Ents.Free, 6)
		}, [3]bool{}},
	} {
		after := gameBy(g, c.turn)
		for system, want := range c.want {
			strayIs(t, c.what, s, g, after, system, want)
			strayIs(t, c.what+", back", s, after, g, system, want)
		}
	}
}

// Floats are held by their bits: the sign of nought tells two apart, and all
// NaNs are one.
func TestStrayOfStrangeFloats(t *testing.T) {
	s, g := strays()
	otherNaN := -nan
	for _, c := range []struct {
		was, is float64
		differ  bool
	}{{0, negZero, true}, {negZero, 0, true}, {0, 0, false}, {negZero, negZero, false}, {nan, nan, false}, {nan, otherNaN, false}, {nan, 0, true}, {1, nan, true}, {inf, inf, false}, {inf, -inf, true}} {
		for what, turn := range map[string]func(g *impl.Game, x float64){
			"Wind":                 func(g *impl.Game, x float64) { g.World.Res[1] = float(x) },
			"Home's real part":     func(g *impl.Game, x float64) { g.World.Res[2] = pair(x, 2) },
			"Home's other part":    func(g *impl.Game, x float64) { g.World.Res[2] = pair(2, x) },
			"Mass":                 func(g *impl.Game, x float64) { g.World.Tables[2].Cells[1][0] = float(x) },
			"Pos, the real part":   func(g *impl.Game, x float64) { g.World.Tables[2].Cells[2][0] = pair(x, 1) },
			"Pos, the other part":  func(g *impl.Game, x float64) { g.World.Tables[2].Cells[2][0] = pair(1, x) },
			"New of Burn":          func(g *impl.Game, x float64) { g.Streams[1].New = []impl.Val{float(x)} },
			"New of Move":          func(g *impl.Game, x float64) { g.Streams[2].New = []impl.Val{pair(1, 1), pair(x, 1)} },
			"New of Move, further": func(g *impl.Game, x float64) { g.Streams[2].New = []impl.Val{pair(1, x), pair(1, 1)} },
		} {
			before := gameBy(g, func(g *impl.Game) { turn(g, c.was) })
			after := gameBy(g, func(g *impl.Game) { turn(g, c.is) })
			strayIs(t, fmt.Sprint(what, " ", c.was, " ", c.is), s, before, after, 2, c.differ)
		}
	}
}

// Systems' numbers that are none, and a single one.
func TestStrayOfNumbers(t *testing.T) {
	s, g := strays()
	after := gameBy(g, func(g *impl.Game) { g.World.Res[3] = yesNo(true) })
	for system := range 3 {
		strayIs(t, "a number", s, g, after, system, true)
	}
	for _, system := range []int{-1, -2, leastInt, 3, 4, 16, 1 << 32, mostInt} {
		noStray(t, "no system", s, g, after, system)
	}
	bare := impl.Sched{Reg: checkReg()}
	none, other := gameOf(bare, runState()), gameOf(bare, fullState())
	for _, system := range []int{-1, 0, 1} {
		noStray(t, "no systems", bare, none, other, system)
	}
	one := staged("", "a:")
	strayIs(t, "one system", one, gameOf(one, runState()), gameBy(gameOf(one, runState()), func(g *impl.Game) { g.Cursors[0][0]++ }), 0, true)
}

// Games that are not right, first or second; whatever else is another one.
func TestStrayOfWrongGames(t *testing.T) {
	s, g := strays()
	far := gameBy(g, func(g *impl.Game) {
		g.World.Res[3], g.Cursors[0][0], g.Cursors[1][0], g.Cursors[2][0] = yesNo(true), 1, 1, 1
	})
	for system := range 3 {
		strayIs(t, "right ones", s, g, far, system, true)
	}
	for what, turn := range map[string]func(g *impl.Game){
		"a resource of another kind": func(g *impl.Game) { g.World.Res[3] = whole(1) },
		"a resource too few":         func(g *impl.Game) { g.World.Res = g.World.Res[:3] },
		"a resource too many":        func(g *impl.Game) { g.World.Res = append(g.World.Res, whole(1)) },
		"a stream too few":           func(g *impl.Game) { g.Streams = g.Streams[:3] },
		"a stream too many":          func(g *impl.Game) { g.Streams = append(g.Streams, impl.Stream{}) },
		"an event of another kind":   func(g *impl.Game) { g.Streams[0].New[0] = yesNo(true) },
		"a list of cursors too few":  func(g *impl.Game) { g.Cursors = g.Cursors[:2] },
		"a list of cursors too many": func(g *impl.Game) { g.Cursors = append(g.Cursors, []int{0, 0, 0, 0}) },
		"a cursor too few":           func(g *impl.Game) { g.Cursors[2] = g.Cursors[2][:3] },
		"a cursor too many":          func(g *impl.Game) { g.Cursors[0] = append(g.Cursors[0], 1) },
		"an Acc too few":             func(g *impl.Game) { g.Clocks.Acc = g.Clocks.Acc[:2] },
		"an Acc below 0":             func(g *impl.Game) { g.Clocks.Acc[0] = -1 },
		"a value of another kind":    func(g *impl.Game) { g.World.Tables[0].Cells[0][0] = float(1) },
		"a thing that is not live":   func(g *impl.Game) { g.World.Ents.Free = append(g.World.Ents.Free, 0) },
		"a thing that stands twice":  func(g *impl.Game) { g.World.Tables[3].Rows[0] = ent(0, 4) },
		"a row without a value":      func(g *impl.Game) { g.World.Tables[0].Cells[0] = g.World.Tables[0].Cells[0][:1] },
		"nothing at all":             func(g *impl.Game) { *g = impl.Game{} },
	} {
		wrong := gameBy(g, turn)
		if impl.GameOk(s, wrong) {
			t.Error("right:", what)
		}
		for system := -1; system <= 3; system++ {
			noStray(t, what, s, far, wrong, system)
			noStray(t, what+", twice", s, wrong, wrong, system)
		}
	}
	for i, c := range wrongStates() {
		if impl.RegOk(c.r) && i%5 == 0 {
			q := impl.Sched{Reg: c.r, Text: "system a { }", Systems: []impl.Sys{{Name: "a"}}}
			if wrong := gameOf(q, c.s); !impl.GameOk(q, wrong) {
				noStray(t, c.what, q, newGame(t, q), wrong, 0)
			}
		}
	}
}

// A schedule that is not right has no strays; one without a plan has them.
func TestStrayOfWrongSchedules(t *testing.T) {
	s, g := strays()
	far := gameBy(g, func(g *impl.Game) { g.World.Res[3] = yesNo(true) })
	for what, turn := range map[string]func(s *impl.Sched){
		"a wrong Reg":      func(s *impl.Sched) { s.Reg.Comps[1].Name = "Hp" },
		"a wrong text":     func(s *impl.Sched) { s.Text += "}" },
		"a wrong tree":     func(s *impl.Sched) { s.Text += "system d { kill; }" },
		"a system twice":   func(s *impl.Sched) { s.Systems[2].Name = "a" },
		"nobody's system":  func(s *impl.Sched) { s.Systems[2].Name = "nobody" },
		"a wrong gate":     func(s *impl.Sched) { s.Systems[0].Every = -1 },
		"a rule of nobody": func(s *impl.Sched) { s.Rules = []impl.Rule{{Before: "a", After: "nobody"}} },
	} {
		for system := range 3 {
			noStray(t, what, turnedBy(s, turn), g, far, system)
		}
	}
	circle := turnedBy(s, func(s *impl.Sched) { s.Rules = []impl.Rule{{Before: "a", After: "b"}, {Before: "b", After: "a"}} })
	clash := strictly(s)
	planRefused(t, "a circle", circle, impl.SchCircle, 0)
	for system := range 3 {
		strayIs(t, "a circle", circle, g, far, system, true)
		strayIs(t, "a circle", circle, g, g, system, false)
		strayIs(t, "strict", clash, g, far, system, true)
	}
}

// As many things as there may be.
func TestStrayOfFullWorlds(t *testing.T) {
	s := impl.Sched{Reg: worldReg(), Text: "system a { } system b { }", Systems: []impl.Sys{{Name: "a"}, {Name: "b"}}}
	g := gameOf(s, impl.State{World: crowd(impl.MaxEnts), Streams: make([]impl.Stream, len(s.Reg.Evts)), Cursors: make([]int, len(s.Reg.Evts))})
	if !impl.GameOk(s, g) {
		t.Fatal("not right")
	}
	noStray(t, "nothing", s, g, cloneGame(g), 0)
	changed := 0
	for i, one := range g.World.Tables {
		for col := range one.Cols {
			if rows := len(one.Rows); rows > 0 {
				after := gameBy(g, func(g *impl.Game) {
					cells := g.World.Tables[i].Cells[col]
					v := &cells[rows-1]
					*v = map[int]impl.Val{impl.KInt: whole(v.I + 1), impl.KReal: float(v.X + 1), impl.KPair: pair(v.X+1, 0), impl.KBool: yesNo(v.I == 0)}[v.Kind]
				})
				if !impl.Stray(s, g, after, 0) || !impl.Stray(s, after, g, 1) {
					t.Error("no stray:", i, col)
				}
				changed++
			}
		}
	}
	if changed == 0 {
		t.Error("nothing was changed")
	}
}
