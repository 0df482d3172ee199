package tests

import (
	"strings"
	"testing"

	"loop.example/g00070/impl"
)

type effCase struct {
	text string
	want string
}

// allTouch asks for the effect of the system s of each text.
func allTouch(t *testing.T, list []effCase) {
	t.Helper()
	for _, c := range list {
		x := checked(t, c.text)
		touches(t, checkReg(), x, "s", c.want)
		tallied(t, checkReg(), x)
	}
}

// inMass is statements that stand in an NEach over Mass.
func inMass(statements string) string {
	return "system s { each with Mass { " + statements + " } }"
}

// Each kind of node that touches something, alone.
func TestEffectOfEachKindOfNode(t *testing.T) {
	allTouch(t, []effCase{
		{inMass("let a = .Mass;"), "Read 1 Match 1"},
		{inMass("let a = pick(1 of Mass);"), "Read 1 Match 1"},
		{inMass(".Mass = 1.5;"), "Write 1 Match 1"},
		{inSystem("each with Mass { }"), "Match 1"},
		{inSystem("each with Hp without Mass { }"), "Match 0 1"},
		{inSystem("let a = $Wind;"), "ReadRes 1"},
		{inSystem("$Wind = 1.5;"), "WriteRes 1"},
		{inSystem("emit Burn 1.5;"), "Send 1"},
		{inSystem("hear Burn as h { }"), "Hear 1"},
		{inSystem("spawn(Mass = 1.5);"), "Add 1 Spawns"},
		{inSystem("spawn();"), "Spawns"},
		{inMass("kill;"), "Match 1 Kills"},
		{inMass("put Heat = 1.5;"), "Match 1 Add 5"},
		{inMass("drop Heat;"), "Match 1 Add 5"},
	})
}

// What names nothing of the Reg touches nothing, even where a local or a
// function has a column's name.
func TestNodesThatTouchNothing(t *testing.T) {
	allTouch(t, []effCase{
		{"system s { }", ""},
		{inSystem("let a = 1; let b = 1.5; let c = yes; let d = pair(b, -b) * pair(1.0, 2.0); a = a + 1; b = size(d);"), ""},
		{inSystem("let Hp = 1; Hp = Hp + 1; if Hp == 2 { } else { loop Hp { } }"), ""},
		{inSystem("hear Hit as Hp { let Mass = Hp; }"), "Hear 0"},
		{inSystem("hear Hit as Burn { let a = Burn; }"), "Hear 0"},
		{"fn Hp(Mass int) int { return Mass; } system s { do Hp(1); let Pos = Hp(2); }", ""},
		{"fn Score() int { return 1; } system s { let a = Score(); }", ""},
		{"system Hit { } system s { }", ""},
	})
}

func TestEffectOfSeveralNodes(t *testing.T) {
	allTouch(t, []effCase{
		// descending in the text, and more than once
		{inSystem("each with Up, Dir, Heat, Mp, Hp { let a = .Dir; let b = .Heat; let c = .Hp; let d = .Dir; let e = .Hp; }"), "Read 0 5 6 Match 0 4 5 6 7"},
		{inSystem("each with Up { .Up = no; .Up = yes; } each with Hp { .Hp = 1; } each with Up { .Up = no; }"), "Write 0 7 Match 0 7"},
		{inSystem("$Over = yes; $Home = pair(0.0, 1.0); $Wind = 1.5; $Score = 1; $Wind = 2.5;"), "WriteRes 0 1 2 3"},
		{inSystem("$Over = $Over; $Score = $Score;"), "ReadRes 0 3 WriteRes 0 3"},
		{inSystem("emit Went yes; emit Hit 1; emit Went no;"), "Send 0 3"},
		{inSystem("hear Went as h { } hear Move as h { } hear Went as h { }"), "Hear 2 3"},
		{inSystem("hear Went as h { emit Went h; emit Burn 1.5; }"), "Send 1 3 Hear 3"},
		{inSystem("spawn(Up = no, Hp = 1, Pos = pair(1.0, 2.0)); spawn(Hp = 2); spawn();"), "Add 0 2 7 Spawns"},
		{inMass("put Up = no; put Hp = 1; drop Up; drop Pos; kill; kill;"), "Match 1 Add 0 2 7 Kills"},
		{inMass("put Mass = .Mass; drop Mass; .Mass = .Mass;"), "Read 1 Write 1 Match 1 Add 1"},
		{inSystem("each with Hp, Mp { .Hp = .Mp; } each with Mass without Hp, On { .Mass = 1.5; }"), "Read 4 Write 0 1 Match 0 1 3 4"},
		// one name of each sort
		{"system s { each with Hp { .Hp = $Score; } $Score = 1; emit Hit 1; hear Hit as h { spawn(Hp = h); } each with Hp { let a = .Hp; kill; } }",
			"Read 0 Write 0 Match 0 ReadRes 0 WriteRes 0 Send 0 Hear 0 Add 0 Spawns Kills"},
	})
}

func TestEffectOfPicks(t *testing.T) {
	allTouch(t, []effCase{
		{inSystem("each with Hp, Mp { let a = pick(1 of Hp); }"), "Read 0 Match 0 4"},
		{inSystem("each with Hp, Mp { let a = pick(1 of Mp); }"), "Read 4 Match 0 4"},
		{inSystem("each with Hp, Mp { let a = pick(0 of Mp, Hp); }"), "Read 0 4 Match 0 4"},
		{inSystem("each with Hp, Mp { let a = pick(0 of Mp, Mp); }"), "Read 4 Match 0 4"},
		{inSystem("each with Hp, Mp { let a = pick(0 of Mp, Hp, Mp, Hp, Hp); }"), "Read 0 4 Match 0 4"},
		{inSystem("each with Hp, Mp { let a = pick(pick(1 of Hp) of Mp); }"), "Read 0 4 Match 0 4"},
		{inSystem("each with Hp, Mp, Pos, Dir { let a = pick(.Hp of Dir); }"), "Read 0 6 Match 0 2 4 6"},
		{inSystem("each with Hp { .Hp = pick($Score of Hp); }"), "Read 0 Write 0 Match 0 ReadRes 0"},
	})
}

func TestEffectOfEachs(t *testing.T) {
	allTouch(t, []effCase{
		{inSystem("each with Hp { }"), "Match 0"},
		{inSystem("each with Mp, Hp { }"), "Match 0 4"},
		{inSystem("each with Hp without On { }"), "Match 0 3"},
		{inSystem("each with On without Up, Dir, Heat, Mp, Pos, Mass, Hp { }"), "Match 0 1 2 3 4 5 6 7"},
		{inSystem("each with Hp { } each with Mp without Hp { }"), "Match 0 4"},
		{inSystem("if no { each with Hp { } } else { loop 0 { each with Up { } } }"), "Match 0 7"},
	})
}

// A node counts wherever it stands in the top.
func TestEffectsDeepInATop(t *testing.T) {
	allTouch(t, []effCase{
		{inSystem("if $Over { }"), "ReadRes 3"},
		{inSystem("if no { } else { $Score = 1; }"), "WriteRes 0"},
		{inSystem("if no { $Score = 1; } else { $Wind = 1.5; }"), "WriteRes 0 1"},
		{inSystem("loop 0 { loop 0 { if no { emit Hit 1; } } }"), "Send 0"},
		{inSystem("loop $Score { }"), "ReadRes 0"},
		{inSystem("let a = not (no or (yes and (1 < 2 + 3 * $Score)));"), "ReadRes 0"},
		{inSystem("let a = im(pair(0.0, -real(1 % $Score)));"), "ReadRes 0"},
		{inSystem("emit Move pair($Wind, size($Home));"), "ReadRes 1 2 Send 2"},
		{inSystem("hear Hit as h { if h == $Score { spawn(Mp = $Score); } }"), "ReadRes 0 Hear 0 Add 4 Spawns"},
		{inMass("if .Mass < 1.5 { loop 3 { if yes { kill; } } }"), "Read 1 Match 1 Kills"},
		{inMass("put Heat = .Mass * $Wind;"), "Read 1 Match 1 ReadRes 1 Add 5"},
		{inMass("spawn(Mass = .Mass, Heat = pick(0 of Mass));"), "Read 1 Match 1 Add 1 5 Spawns"},
		{inMass("$Wind = .Mass;"), "Read 1 Match 1 WriteRes 1"},
	})
}

func TestEffectOfWholeText(t *testing.T) {
	x := checked(t, wholeText)
	touches(t, checkReg(), x, "half", "")
	touches(t, checkReg(), x, "far", "ReadRes 1")
	touches(t, checkReg(), x, "next", "ReadRes 0 WriteRes 0 Send 3 Add 0 3 Spawns")
	tallied(t, checkReg(), x)
}

// touching is a function of one parameter that touches something in each way
// that a function can.
const touching = "fn deep(n int) int { emit Went $Over; spawn(Pos = $Home); $Wind = 1.5; return n; } "

const deepEffect = "ReadRes 2 3 WriteRes 1 Send 3 Add 2 Spawns"

func TestEffectsOfFunctions(t *testing.T) {
	for text, want := range map[string]string{
		"fn f() int { return 1; }":                                             "",
		"fn f(Hp int) int { return Hp; }":                                      "",
		"fn f() int { return $Score; }":                                        "ReadRes 0",
		"fn f() int { $Wind = 1.5; return 1; }":                                "WriteRes 1",
		"fn f() int { emit Went yes; return 1; }":                              "Send 3",
		"fn f() int { spawn(On = yes, Hp = 1); return 1; }":                    "Add 0 3 Spawns",
		"fn f() int { spawn(); return 1; }":                                    "Spawns",
		touching + "fn f() int { return deep(1); }":                            deepEffect,
		touching + "fn f() int { let a = $Score; return deep(a); }":            "ReadRes 0 2 3 WriteRes 1 Send 3 Add 2 Spawns",
		touching + "fn f() int { return 1; } fn g() int { return deep(f()); }": "",
	} {
		x := checked(t, text)
		touches(t, checkReg(), x, "f", want)
		tallied(t, checkReg(), x)
	}
}

// A call counts wherever it stands.
func TestEffectsOfCallsEverywhere(t *testing.T) {
	for _, statements := range []string{
		"do deep(1);",
		"let a = deep(1);",
		"let a = 1 + 2 * -deep(1);",
		"let a = 0; a = deep(a);",
		"do deep(deep(1));",
		"do same(deep(1));",
		"let a = same(1 + same(deep(1)));",
		"if deep(1) == 1 { }",
		"if no { do deep(1); }",
		"if yes { } else { do deep(1); }",
		"loop deep(0) { }",
		"loop 0 { do deep(1); }",
		"let a = pair(real(deep(1)), 0.0);",
		"let a = no and deep(1) == 1;",
		"spawn();  do deep(1);",
	} {
		x := checked(t, touching+"fn same(n int) int { return n; } "+inSystem(statements))
		touches(t, checkReg(), x, "s", deepEffect)
		tallied(t, checkReg(), x)
	}
	allTouch(t, []effCase{
		{touching + inSystem("emit Hit deep(1);"), "ReadRes 2 3 WriteRes 1 Send 0 3 Add 2 Spawns"},
		{touching + inSystem("$Score = deep(1);"), "ReadRes 2 3 WriteRes 0 1 Send 3 Add 2 Spawns"},
		{touching + inSystem("spawn(Hp = deep(1));"), "ReadRes 2 3 WriteRes 1 Send 3 Add 0 2 Spawns"},
		{touching + inSystem("hear Hit as h { do deep(h); }"), "ReadRes 2 3 WriteRes 1 Send 3 Hear 0 Add 2 Spawns"},
		{touching + inSystem("each with Hp { .Hp = deep(1); }"), "Write 0 Match 0 ReadRes 2 3 WriteRes 1 Send 3 Add 2 Spawns"},
		{touching + inSystem("each with Hp { let a = pick(deep(1) of Hp); }"), "Read 0 Match 0 ReadRes 2 3 WriteRes 1 Send 3 Add 2 Spawns"},
		{touching + inSystem("each with Hp { put Mp = deep(.Hp); }"), "Read 0 Match 0 ReadRes 2 3 WriteRes 1 Send 3 Add 2 4 Spawns"},
	})
}

// Functions that are reached by way of others alone.
func TestEffectsOfReachedFunctions(t *testing.T) {
	x := checked(t, touching+`
fn one(n int) int { return deep(n); }
fn two(n int) int { do one(n); return $Score; }
fn side(n int) int { emit Burn 1.5; return n; }
fn three(n int) int { loop two(n) { n = side(n); } return n; }
fn alone() int { $Score = 1; emit Hit 1; emit Move $Home; spawn(Up = no); return three(1); }
fn idle() int { return 1; }
system none { do idle(); }
system first { do one(1); }
system second { let a = two(2); }
system third { each with Mp { .Mp = three(0); } }
system twice { do one(1); do two(1); }
system both { do side(1); do one(1); }
`)
	for name, want := range map[string]string{
		"deep": deepEffect, "one": deepEffect, "first": deepEffect, "idle": "", "none": "",
		"two":    "ReadRes 0 2 3 WriteRes 1 Send 3 Add 2 Spawns",
		"second": "ReadRes 0 2 3 WriteRes 1 Send 3 Add 2 Spawns",
		"twice":  "ReadRes 0 2 3 WriteRes 1 Send 3 Add 2 Spawns",
		"side":   "Send 1",
		"both":   "ReadRes 2 3 WriteRes 1 Send 1 3 Add 2 Spawns",
		"three":  "ReadRes 0 2 3 WriteRes 1 Send 1 3 Add 2 Spawns",
		"third":  "Write 4 Match 4 ReadRes 0 2 3 WriteRes 1 Send 1 3 Add 2 Spawns",
		"alone":  "ReadRes 0 2 3 WriteRes 0 1 Send 0 1 2 3 Add 2 7 Spawns",
	} {
		touches(t, checkReg(), x, name, want)
	}
	tallied(t, checkReg(), x)
}

// Nothing is told of a function that is not called, of another system, or of
// a function behind.
func TestEffectsOfWhatIsNotReached(t *testing.T) {
	allTouch(t, []effCase{
		{touching + "system s { }", ""},
		{touching + "fn mid() int { return deep(1); } system s { }", ""},
		{touching + "fn mid() int { return 1; } system s { do mid(); }", ""},
		{"system s { } " + touching, ""},
		{"system s { } system q { $Score = 1; } " + touching, ""},
		{"system q { each with Hp { kill; } } system s { $Score = 1; }", "WriteRes 0"},
		{touching + "system q { do deep(1); } system s { let deep = 1; }", ""},
	})
}

// Two that call one third have what it has, and each its own.
func TestEffectsOfAFunctionThatTwoCall(t *testing.T) {
	x := checked(t, "fn c() int { return $Score; } fn a() int { emit Hit c(); return 1; } fn b() int { $Wind = real(c()); return 2; } system s { do a(); do b(); } system r { do b(); }")
	for name, want := range map[string]string{
		"c": "ReadRes 0", "a": "ReadRes 0 Send 0", "b": "ReadRes 0 WriteRes 1", "s": "ReadRes 0 WriteRes 1 Send 0", "r": "ReadRes 0 WriteRes 1",
	} {
		touches(t, checkReg(), x, name, want)
	}
	tallied(t, checkReg(), x)
}

// A row of functions, each of which calls the one ahead, as long as a tree has
// room for.
func TestEffectsOfALongRowOfFunctions(t *testing.T) {
	tops := []*plant{fnPlant(longName(0), impl.KInt, blockPlant(grown(impl.NReturn, leaf(impl.NRes, "Score", 0))))}
	for i := 1; i < 990; i++ {
		tops = append(tops, fnPlant(longName(i), impl.KInt, blockPlant(grown(impl.NReturn, named(impl.NCall, longName(i-1))))))
	}
	tops = append(tops, systemPlant("s", grown(impl.NDo, named(impl.NCall, longName(989)))))
	x := treeOf(tops...)
	if len(x.Nodes) > impl.MaxNodes {
		t.Fatal("too many nodes:", len(x.Nodes))
	}
	for _, name := range []string{"s", longName(0), longName(1), longName(989)} {
		touches(t, checkReg(), x, name, "ReadRes 0")
	}
}

// Of many calls of one function, that calls another one as often, each counts
// once.
func TestEffectsOfManyCalls(t *testing.T) {
	var b strings.Builder
	b.WriteString("fn ca() int { return $Score; } ")
	for i := 1; i < 20; i++ {
		before, name := "c"+string(rune('a'+i-1)), "c"+string(rune('a'+i))
		b.WriteString("fn " + name + "() int { return 0" + strings.Repeat(" + "+before+"()", 20) + "; } ")
	}
	x := checked(t, b.String()+"system s { do ct(); }")
	touches(t, checkReg(), x, "s", "ReadRes 0")
	touches(t, checkReg(), x, "ct", "ReadRes 0")
}

// The last numbers of a Reg that is full.
func TestEffectsOfTheLastNumbers(t *testing.T) {
	r := impl.Reg{Comps: decls("C", impl.MaxDecls), Ress: decls("R", impl.MaxDecls), Evts: decls("V", impl.MaxDecls)}
	for i := range r.Comps {
		r.Comps[i].Kind, r.Ress[i].Kind, r.Evts[i].Kind = impl.KInt, impl.KInt, impl.KInt
	}
	last := "Read 11 Write 11 Match 11 ReadRes 11 WriteRes 11 Send 11 Hear 11 Add 11 Spawns Kills"
	x := parsedTree(t, "system s { each with Cl { .Cl = .Cl; kill; } $Rl = $Rl; emit Vl 1; hear Vl as h { spawn(Cl = h); } }")
	touches(t, r, x, "s", last)
	x = parsedTree(t, "system s { each with Cl, Ca { .Cl = pick(0 of Cl); .Ca = pick(1 of Ca); drop Cl; put Ca = 1; } $Rl = $Ra; $Ra = $Rl; emit Vl 1; emit Va 1; hear Vl as h { } hear Va as h { } }")
	touches(t, r, x, "s", "Read 0 11 Write 0 11 Match 0 11 ReadRes 0 11 WriteRes 0 11 Send 0 11 Hear 0 11 Add 0 11")
	var all strings.Builder
	for i := impl.MaxDecls - 1; i >= 0; i-- {
		c := string(rune('a' + i))
		all.WriteString("each with C" + c + " { .C" + c + " = .C" + c + "; drop C" + c + "; } $R" + c + " = $R" + c + "; emit V" + c + " 1; hear V" + c + " as h { } ")
	}
	var want impl.Effect
	for _, list := range effLists(&want) {
		for i := range impl.MaxDecls {
			*list = append(*list, i)
		}
	}
	touches(t, r, parsedTree(t, inSystem(all.String())), "s", effText(want))
}

func TestEffectOk(t *testing.T) {
	r := checkReg()
	counts := []int{8, 8, 8, 4, 4, 4, 4, 8}
	for i, count := range counts {
		for _, c := range []struct {
			list []int
			want bool
		}{
			{nil, true}, {[]int{}, true}, {[]int{0}, true}, {[]int{count - 1}, true}, {[]int{0, count - 1}, true}, {[]int{0, 1, 2, 3}, true}, {[]int{1, 3}, true},
			{[]int{count}, false}, {[]int{0, count}, false}, {[]int{count, 0}, false}, {[]int{count + 1}, false}, {[]int{12}, false}, {[]int{mostInt}, false},
			{[]int{-1}, false}, {[]int{-1, 0}, false}, {[]int{leastInt}, false}, {[]int{0, -1}, false},
			{[]int{0, 0}, false}, {[]int{1, 1}, false}, {[]int{0, 1, 1}, false}, {[]int{0, 1, 0}, false}, {[]int{1, 0}, false}, {[]int{3, 2, 1, 0}, false}, {[]int{0, 2, 1, 3}, false},
		} {
			for _, flags := range []impl.Effect{{}, {Spawns: true}, {Kills: true}, {Spawns: true, Kills: true}} {
				e := flags
				*effLists(&e)[i] = c.list
				if impl.EffectOk(r, e) != c.want {
					t.Errorf("EffectOk of %s %v is not %v", effNames[i], c.list, c.want)
				}
			}
		}
	}
	every := effOf("Read 0 1 2 3 4 5 6 7 Write 0 1 2 3 4 5 6 7 Match 0 1 2 3 4 5 6 7 ReadRes 0 1 2 3 WriteRes 0 1 2 3 Send 0 1 2 3 Hear 0 1 2 3 Add 0 1 2 3 4 5 6 7 Spawns Kills")
	if !impl.EffectOk(r, every) || !impl.EffectOk(r, impl.Effect{}) || !impl.EffectOk(impl.Reg{}, impl.Effect{}) {
		t.Error("right effects")
	}
	// a list that is wrong is found behind right ones, and ahead of them
	for i, count := range counts {
		e := cloneEff(every)
		*effLists(&e)[i] = append(*effLists(&e)[i], count)
		if impl.EffectOk(r, e) {
			t.Error("EffectOk with one too many in", effNames[i])
		}
		if impl.EffectOk(impl.Reg{}, oneNumber(i, 0)) {
			t.Error("EffectOk of an empty Reg with a number in", effNames[i])
		}
	}
}

// oneNumber is an effect with one number in one list.
func oneNumber(list, n int) impl.Effect {
	var e impl.Effect
	*effLists(&e)[list] = []int{n}
	return e
}

// Each list counts its own Decls, whatever the others have.
func TestEffectOkOfListsOfAnotherSort(t *testing.T) {
	for _, sort := range allSorts {
		for _, count := range []int{0, 1, 5, impl.MaxDecls} {
			r := withList(impl.Reg{}, sort, decls("N", count))
			for i := range effNames {
				for _, n := range []int{0, count - 1, count, impl.MaxDecls - 1, impl.MaxDecls} {
					want := effSorts[i] == sort && n >= 0 && n < count
					if impl.EffectOk(r, oneNumber(i, n)) != want {
						t.Errorf("EffectOk with %d of the sort %d, of %s %d is not %v", count, sort, effNames[i], n, want)
					}
				}
			}
		}
	}
}

func TestEffJoin(t *testing.T) {
	for _, c := range [][3]string{
		{"", "", ""},
		{"Read 1", "", "Read 1"},
		{"Read 1", "Read 1", "Read 1"},
		{"Read 2", "Read 0 1", "Read 0 1 2"},
		{"Read 0 2 4", "Read 1 2 3", "Read 0 1 2 3 4"},
		{"Read 1 Write 2 Match 3 ReadRes 0 Add 4", "WriteRes 1 Send 2 Hear 3 Spawns Kills", "Read 1 Write 2 Match 3 ReadRes 0 WriteRes 1 Send 2 Hear 3 Add 4 Spawns Kills"},
		{"Spawns", "Kills", "Spawns Kills"},
		{"Spawns", "", "Spawns"},
		{"Kills", "", "Kills"},
		{"Spawns Kills", "Spawns", "Spawns Kills"},
		// whatever the numbers are
		{"Read 3 1 3", "Read 2", "Read 1 2 3"},
		{"Read 3 3 3", "", "Read 3"},
		{"Add 9 -4 9 0", "Add 5 -4", "Add -4 0 5 9"},
		{"Hear 4000 12 13", "Hear 11", "Hear 11 12 13 4000"},
		{"Send 9223372036854775807 -9223372036854775808", "Send 0 -1", "Send -9223372036854775808 -1 0 9223372036854775807"},
		{"Match -1", "Match -2", "Match -2 -1"},
	} {
		a, b := effOf(c[0]), effOf(c[1])
		for _, e := range []impl.Effect{impl.EffJoin(a, b), impl.EffJoin(b, a)} {
			if effText(e) != c[2] {
				t.Errorf("EffJoin of %q and %q: %q", c[0], c[1], effText(e))
			}
			for _, again := range []impl.Effect{a, b, e, {}} {
				if effText(impl.EffJoin(e, again)) != c[2] || effText(impl.EffJoin(again, e)) != c[2] {
					t.Errorf("EffJoin of %q and %q once more is another one", c[2], effText(again))
				}
			}
		}
	}
	for i, name := range effNames {
		for j, other := range effNames {
			if i != j {
				if e := impl.EffJoin(oneNumber(i, 3), oneNumber(j, 2)); len(*effLists(&e)[i]) != 1 || len(*effLists(&e)[j]) != 1 || effText(e) != effText(impl.EffJoin(oneNumber(j, 2), oneNumber(i, 3))) {
					t.Errorf("EffJoin of %s and %s: %q", name, other, effText(e))
				}
			}
		}
	}
}

func TestEffWithin(t *testing.T) {
	for _, c := range []struct {
		a, b string
		want bool
	}{
		{"", "", true}, {"", "Read 1 Spawns Kills", true}, {"Read 1", "", false},
		{"Read 1", "Read 1", true}, {"Read 1", "Read 0 1 2", true}, {"Read 0 1 2", "Read 1", false}, {"Read 0 2", "Read 0 1 2", true}, {"Read 0 3", "Read 0 1 2", false},
		{"Spawns", "Spawns", true}, {"Kills", "Kills", true}, {"Spawns", "", false}, {"Kills", "", false}, {"", "Spawns", true}, {"", "Kills", true},
		{"Spawns", "Kills", false}, {"Kills", "Spawns", false}, {"Spawns", "Spawns Kills", true}, {"Kills", "Spawns Kills", true}, {"Spawns Kills", "Spawns", false}, {"Spawns Kills", "Kills", false},
		{"Read 1 Spawns", "Read 1", false}, {"Read 1", "Read 1 Kills", true}, {"Read 1 Kills", "Read 2 Kills", false},
		// whatever the numbers are
		{"Read 2 1 2 1", "Read 1 2", true}, {"Read 1 2", "Read 2 1 2", true}, {"Read 1 1", "Read 1", true}, {"Read 1", "Read 1 1", true}, {"Read 1 1", "Read 0 2", false},
		{"Read -1", "Read 0", false}, {"Read -1", "Read 3 -1", true}, {"Read 12", "Read 12 11", true}, {"Read 4000", "Read 4001", false}, {"Read 12", "Read 0", false}, {"Read 0", "Read 12", false},
		{"Read 9223372036854775807", "Read -9223372036854775808", false}, {"Read -9223372036854775808", "Read 9223372036854775807 -9223372036854775808", true},
	} {
		for i := range effNames {
			a, b := effOf(strings.ReplaceAll(c.a, "Read", effNames[i])), effOf(strings.ReplaceAll(c.b, "Read", effNames[i]))
			if impl.EffWithin(a, b) != c.want {
				t.Errorf("EffWithin of %q in %q is not %v", effText(a), effText(b), c.want)
			}
		}
	}
	// a number counts in its own list alone
	for i := range effNames {
		for j := range effNames {
			if impl.EffWithin(oneNumber(i, 1), oneNumber(j, 1)) != (i == j) {
				t.Error("EffWithin of one number", effNames[i], effNames[j])
			}
		}
	}
}

func TestCommands(t *testing.T) {
	for text, want := range map[string]bool{
		"": false, "Spawns": true, "Kills": true, "Add 0": true, "Add 1 2": true, "Add -1": true, "Add 4000 4000": true, "Spawns Kills Add 1": true,
		"Read 0 Write 1 Match 2 ReadRes 3 WriteRes 0 Send 1 Hear 2": false, "Write 1 Spawns": true, "Match 1 Kills": true, "Read 1 Add 1": true,
	} {
		if impl.Commands(effOf(text)) != want {
			t.Errorf("Commands of %q is not %v", text, want)
		}
	}
	for i := range effNames {
		if impl.Commands(oneNumber(i, 0)) != (effNames[i] == "Add") {
			t.Error("Commands of a number in", effNames[i])
		}
	}
	if impl.Commands(impl.Effect{Add: []int{}}) {
		t.Error("Commands of an empty Add")
	}
}
