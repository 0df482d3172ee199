package tests

import (
	"strconv"
	"strings"
	"testing"

	"loop.example/g00070/impl"
)

func TestCodeConstants(t *testing.T) {
	for i, n := range []int{
		impl.IPush, impl.ILocal, impl.IStore, impl.IComp, impl.ISetComp, impl.IRes, impl.ISetRes, impl.IOp, impl.ITurn, impl.IPair, impl.IPick, impl.ICall, impl.IBack, impl.IForget,
		impl.IJump, impl.IUnless, impl.ILoop, impl.IEach, impl.INext, impl.IHear, impl.IMore, impl.IEmit, impl.ISpawn, impl.IKill, impl.IPut, impl.IDrop, impl.ITick, impl.IEnd,
	} {
		if n != i+1 {
			t.Errorf("%s is %d", insNames[i+1], n)
		}
	}
}

// Each expression alone, in a statement that stores it.
func TestCodeOfExpressions(t *testing.T) {
	allCompile(t, []codeCase{
		statementCase("$Score = 7;", "Tick, Push 7, SetRes 0, End", 0),
		statementCase("$Wind = 1.50;", "Tick, Push 1.5, SetRes 1, End", 0),
		statementCase("$Over = yes;", "Tick, Push yes, SetRes 3, End", 0),
		statementCase("$Over = no;", "Tick, Push no, SetRes 3, End", 0),
		statementCase("$Home = $Home;", "Tick, Res 2, SetRes 2, End", 0),
		statementCase("$Score = (((7)));", "Tick, Push 7, SetRes 0, End", 0),
		statementCase("$Home = pair(1.5, 2.25);", "Tick, Push 1.5, Push 2.25, Pair, SetRes 2, End", 0),
		statementCase("let a = 1; $Score = a;", "Tick, Push 1, Store 0, Tick, Local 0, SetRes 0, End", 1),
		statementCase("each with Up { $Over = .Up; }", "Tick, Each 0 1, Next 7, Tick, Comp 7, SetRes 3, Jump 2, End", 0, []int{7}, nil),
		statementCase("each with Mp { $Score = pick(3 of Mp); }", "Tick, Each 0 1, Next 8, Tick, Push 3, Pick 2, SetRes 0, Jump 2, End", 0, []int{4}, nil, []int{4}),
		{"fn f() int { return 1; } system s { $Score = f(); }", "Tick, Push 1, Back, Tick, Call 0 0, SetRes 0, End", []int{0, 3}, []int{0, 0}, nil},
		{"fn f(a int, b bool) int { return 1; } system s { $Score = f(2, yes); }", "Tick, Push 1, Back, Tick, Push 2, Push yes, Call 0 2, SetRes 0, End", []int{0, 3}, []int{2, 0}, nil},
	})
}

// Each op and each turn, for every kind that it is for; the left operand first.
func TestCodeOfOpsAndTurns(t *testing.T) {
	names := []string{impl.KInt: "Score", impl.KReal: "Wind", impl.KPair: "Home", impl.KBool: "Over"}
	count := 0
	for kind := impl.KInt; kind <= impl.KBool; kind++ {
		res := strconv.Itoa(kind - 1)
		for op := impl.OpAdd; op <= impl.OpOr; op++ {
			if to := opResult(op, kind, kind); to != 0 {
				count++
				allCompile(t, []codeCase{statementCase("$"+names[to]+" = $"+names[kind]+" "+opSigns[op]+" $"+names[kind]+";",
					"Tick, Res "+res+", Res "+res+", Op "+strconv.Itoa(op)+", SetRes "+strconv.Itoa(to-1)+", End", 0)})
			}
		}
		for op := impl.TurnNeg; op <= impl.TurnSize; op++ {
			if to := turnResult(op, kind); to != 0 {
				count++
				allCompile(t, []codeCase{statementCase("$"+names[to]+" = "+turnSigns[op]+" ($"+names[kind]+");",
					"Tick, Res "+res+", Turn "+strconv.Itoa(op)+", SetRes "+strconv.Itoa(to-1)+", End", 0)})
			}
		}
	}
	if count != 7+6+4+3+3+1+4 {
		t.Error("not every op and turn was met:", count)
	}
	allCompile(t, []codeCase{
		statementCase("$Score = 1 - 2;", "Tick, Push 1, Push 2, Op 2, SetRes 0, End", 0),
		statementCase("$Score = 1 - 2 - 3;", "Tick, Push 1, Push 2, Op 2, Push 3, Op 2, SetRes 0, End", 0),
		statementCase("$Score = 1 - (2 - 3);", "Tick, Push 1, Push 2, Push 3, Op 2, Op 2, SetRes 0, End", 0),
		statementCase("$Score = 1 + 2 * 3;", "Tick, Push 1, Push 2, Push 3, Op 3, Op 1, SetRes 0, End", 0),
		statementCase("$Score = --5;", "Tick, Push 5, Turn 1, Turn 1, SetRes 0, End", 0),
		// both operands are asked for always
		statementCase("$Over = no and 1 / 0 == 1 or yes;", "Tick, Push no, Push 1, Push 0, Op 4, Push 1, Op 7, Op 8, Push yes, Op 9, SetRes 3, End", 0),
		statementCase("$Wind = im(pair(re($Home), 2.0)) * real(3) - size($Home);",
			"Tick, Res 2, Turn 3, Push 2.0, Pair, Turn 4, Push 3, Turn 5, Op 3, Res 2, Turn 6, Op 2, SetRes 1, End", 0),
	})
}

// Each statement alone.
func TestCodeOfStatements(t *testing.T) {
	each := "Tick, Each 0 1, Next "
	allCompile(t, []codeCase{
		statementCase("", "End", 0),
		statementCase("let a = 1;", "Tick, Push 1, Store 0, End", 1),
		statementCase("let a = 1; a = 2;", "Tick, Push 1, Store 0, Tick, Push 2, Store 0, End", 1),
		statementCase("$Over = yes;", "Tick, Push yes, SetRes 3, End", 0),
		statementCase("emit Burn 1.5;", "Tick, Push 1.5, Emit 1, End", 0),
		statementCase("if yes { }", "Tick, Push yes, Unless 3, End", 0),
		statementCase("if yes { } else { }", "Tick, Push yes, Unless 4, Jump 4, End", 0),
		statementCase("loop 3 { }", "Tick, Push 3, Loop 4, Jump 2, End", 0),
		statementCase("each with Hp { }", "Tick, Each 0 1, Next 4, Jump 2, End", 0, []int{0}, nil),
		statementCase("each with Hp without On { }", "Tick, Each 0 1, Next 4, Jump 2, End", 0, []int{0}, []int{3}),
		statementCase("hear Move as h { }", "Tick, Hear 2, More 4 0, Jump 2, End", 1),
		statementCase("spawn();", "Tick, Spawn 0, End", 0, nil),
		statementCase("spawn(Up = yes);", "Tick, Push yes, Spawn 0, End", 0, []int{7}),
		statementCase("each with Hp { .Hp = 1; }", each+"7, Tick, Push 1, SetComp 0, Jump 2, End", 0, []int{0}, nil),
		statementCase("each with Hp { kill; }", each+"6, Tick, Kill, Jump 2, End", 0, []int{0}, nil),
		statementCase("each with Hp { put Mass = 1.5; }", each+"7, Tick, Push 1.5, Put 1, Jump 2, End", 0, []int{0}, nil),
		statementCase("each with Hp { drop Dir; }", each+"6, Tick, Drop 6, Jump 2, End", 0, []int{0}, nil),
		{"fn f() int { return 1; } system s { do f(); }", "Tick, Push 1, Back, Tick, Call 0 0, Forget, End", []int{0, 3}, []int{0, 0}, nil},
		{"fn f() pair { return $Home; } system s { }", "Tick, Res 2, Back, End", []int{0, 3}, []int{0, 0}, nil},
	})
}

func TestCodeOfChoices(t *testing.T) {
	allCompile(t, []codeCase{
		statementCase("if $Over { $Score = 1; }", "Tick, Res 3, Unless 6, Tick, Push 1, SetRes 0, End", 0),
		statementCase("if $Over { $Score = 1; } else { $Score = 2; }", "Tick, Res 3, Unless 7, Tick, Push 1, SetRes 0, Jump 10, Tick, Push 2, SetRes 0, End", 0),
		statementCase("if $Over { } else { $Score = 2; }", "Tick, Res 3, Unless 4, Jump 7, Tick, Push 2, SetRes 0, End", 0),
		statementCase("if $Over { $Score = 1; } else { }", "Tick, Res 3, Unless 7, Tick, Push 1, SetRes 0, Jump 7, End", 0),
		// an else within which there is an if and nothing else
		statementCase("if $Over { $Score = 1; } else { if yes { $Score = 2; } }",
			"Tick, Res 3, Unless 7, Tick, Push 1, SetRes 0, Jump 13, Tick, Push yes, Unless 13, Tick, Push 2, SetRes 0, End", 0),
		statementCase("if $Over { } else { if yes { } else { if no { } else { } } }",
			"Tick, Res 3, Unless 4, Jump 12, Tick, Push yes, Unless 8, Jump 12, Tick, Push no, Unless 12, Jump 12, End", 0),
		statementCase("if yes { if no { } }", "Tick, Push yes, Unless 6, Tick, Push no, Unless 6, End", 0),
		statementCase("if yes { if no { } else { } }", "Tick, Push yes, Unless 7, Tick, Push no, Unless 7, Jump 7, End", 0),
		statementCase("if yes { if no { } } else { if no { } }", "Tick, Push yes, Unless 7, Tick, Push no, Unless 6, Jump 10, Tick, Push no, Unless 10, End", 0),
		statementCase("if yes { if no { $Score = 1; } $Score = 2; } $Score = 3;",
			"Tick, Push yes, Unless 12, Tick, Push no, Unless 9, Tick, Push 1, SetRes 0, Tick, Push 2, SetRes 0, Tick, Push 3, SetRes 0, End", 0),
		statementCase("if yes { } if no { } else { } if yes { }", "Tick, Push yes, Unless 3, Tick, Push no, Unless 7, Jump 7, Tick, Push yes, Unless 10, End", 0),
	})
	// the language has no `else if`
	readRefused(t, "system s { if yes { } else if no { } }", impl.ParWant, 27)
}

func TestCodeOfRounds(t *testing.T) {
	allCompile(t, []codeCase{
		statementCase("loop $Score { $Score = 1; }", "Tick, Res 0, Loop 7, Tick, Push 1, SetRes 0, Jump 2, End", 0),
		statementCase("loop 1 + 2 { }", "Tick, Push 1, Push 2, Op 1, Loop 6, Jump 4, End", 0),
		statementCase("loop 2 { loop 3 { } }", "Tick, Push 2, Loop 8, Tick, Push 3, Loop 7, Jump 5, Jump 2, End", 0),
		statementCase("loop 2 { loop 3 { $Score = 1; } $Score = 2; } $Score = 3;",
			"Tick, Push 2, Loop 14, Tick, Push 3, Loop 10, Tick, Push 1, SetRes 0, Jump 5, Tick, Push 2, SetRes 0, Jump 2, Tick, Push 3, SetRes 0, End", 0),
		statementCase("loop 2 { each with Hp { } }", "Tick, Push 2, Loop 8, Tick, Each 0 1, Next 7, Jump 5, Jump 2, End", 0, []int{0}, nil),
		statementCase("each with Hp { loop 2 { kill; } }", "Tick, Each 0 1, Next 10, Tick, Push 2, Loop 9, Tick, Kill, Jump 5, Jump 2, End", 0, []int{0}, nil),
		statementCase("loop 2 { hear Hit as h { } }", "Tick, Push 2, Loop 8, Tick, Hear 0, More 7 0, Jump 5, Jump 2, End", 1),
		statementCase("hear Hit as h { loop h { } }", "Tick, Hear 0, More 8 0, Tick, Local 0, Loop 7, Jump 5, Jump 2, End", 1),
		statementCase("hear Hit as h { $Score = h; }", "Tick, Hear 0, More 7 0, Tick, Local 0, SetRes 0, Jump 2, End", 1),
		statementCase("if yes { loop 1 { } }", "Tick, Push yes, Unless 7, Tick, Push 1, Loop 7, Jump 5, End", 0),
		statementCase("if yes { loop 1 { } } else { each with Hp { } }",
			"Tick, Push yes, Unless 8, Tick, Push 1, Loop 7, Jump 5, Jump 12, Tick, Each 0 1, Next 12, Jump 10, End", 0, []int{0}, nil),
		statementCase("loop 1 { if yes { } }", "Tick, Push 1, Loop 7, Tick, Push yes, Unless 6, Jump 2, End", 0),
		statementCase("loop 1 { if yes { } else { } }", "Tick, Push 1, Loop 8, Tick, Push yes, Unless 7, Jump 7, Jump 2, End", 0),
		// of a jump to what leads back, none is left out
		statementCase("each with Hp { if yes { } else { loop 1 { } } }",
			"Tick, Each 0 1, Next 12, Tick, Push yes, Unless 7, Jump 11, Tick, Push 1, Loop 11, Jump 9, Jump 2, End", 0, []int{0}, nil),
		statementCase("loop 1 { } each with Hp { } hear Hit as h { } loop 2 { }",
			"Tick, Push 1, Loop 4, Jump 2, Tick, Each 0 1, Next 8, Jump 6, Tick, Hear 0, More 12 0, Jump 10, Tick, Push 2, Loop 16, Jump 14, End", 1, []int{0}, nil),
	})
}

// A round is the last statement of a function's inner block, ahead of what is
// returned.
func TestCodeOfRoundsInFunctions(t *testing.T) {
	allCompile(t, []codeCase{
		{"fn f() int { loop 2 { } return 1; } system s { }", "Tick, Push 2, Loop 4, Jump 2, Tick, Push 1, Back, End", []int{0, 7}, []int{0, 0}, nil},
		{"fn f(n int) int { if yes { loop n { } } return n; } system s { }",
			"Tick, Push yes, Unless 7, Tick, Local 0, Loop 7, Jump 5, Tick, Local 0, Back, End", []int{0, 10}, []int{1, 0}, nil},
		// places are those in all of Code, not in the function's own
		{"fn f() int { return 1; } fn g() int { loop 2 { } return 2; } system s { loop 3 { } }",
			"Tick, Push 1, Back, Tick, Push 2, Loop 7, Jump 5, Tick, Push 2, Back, Tick, Push 3, Loop 14, Jump 12, End", []int{0, 3, 10}, []int{0, 0, 0}, nil},
	})
}

func TestCodeOfLocals(t *testing.T) {
	allCompile(t, []codeCase{
		// one name in blocks beside one another
		statementCase("if yes { let a = 1; a = a; } else { let a = yes; a = a; }",
			"Tick, Push yes, Unless 10, Tick, Push 1, Store 0, Tick, Local 0, Store 0, Jump 16, Tick, Push yes, Store 1, Tick, Local 1, Store 1, End", 2),
		statementCase("loop 1 { let a = 1; } loop 2 { let a = 2; a = a; } let a = 3; a = a;",
			"Tick, Push 1, Loop 7, Tick, Push 1, Store 0, Jump 2, Tick, Push 2, Loop 17, Tick, Push 2, Store 1, Tick, Local 1, Store 1, Jump 9, "+
				"Tick, Push 3, Store 2, Tick, Local 2, Store 2, End", 3),
		// the one of an inner block ahead is not the one of the outer block
		statementCase("if yes { let a = 1; } let b = 2; let a = 3; b = a;",
			"Tick, Push yes, Unless 6, Tick, Push 1, Store 0, Tick, Push 2, Store 1, Tick, Push 3, Store 2, Tick, Local 2, Store 1, End", 3),
		// one of an outer block, in an inner one and behind it
		statementCase("let a = 1; if yes { let b = 2; a = b; } $Score = a;",
			"Tick, Push 1, Store 0, Tick, Push yes, Unless 12, Tick, Push 2, Store 1, Tick, Local 1, Store 0, Tick, Local 0, SetRes 0, End", 2),
		statementCase("let a = 1; loop a { let b = a; loop b { let c = b; a = c; } b = a; } a = a;",
			"Tick, Push 1, Store 0, Tick, Local 0, Loop 23, Tick, Local 0, Store 1, Tick, Local 1, Loop 19, Tick, Local 1, Store 2, Tick, Local 2, Store 0, Jump 11, "+
				"Tick, Local 0, Store 1, Jump 5, Tick, Local 0, Store 0, End", 3),
		// a name of another thing is not a local of that name
		statementCase("let Score = 1; $Score = Score; Score = $Score;", "Tick, Push 1, Store 0, Tick, Local 0, SetRes 0, Tick, Res 0, Store 0, End", 1),
		{"fn f() int { return 1; } system s { let f = f(); f = f() + f; }",
			"Tick, Push 1, Back, Tick, Call 0 0, Store 0, Tick, Call 0 0, Local 0, Op 1, Store 0, End", []int{0, 3}, []int{0, 1}, nil},
	})
}

// Locals are numbered by their nodes, of whatever kind they are.
func TestCodeOfLocalsOfEveryKind(t *testing.T) {
	allCompile(t, []codeCase{
		{"fn f(c int, a real, b bool) int { let d = c; c = d; return c; } system s { }",
			"Tick, Local 0, Store 3, Tick, Local 3, Store 0, Tick, Local 0, Back, End", []int{0, 9}, []int{4, 0}, nil},
		{"fn f(z int, y int) int { if yes { let x = y; z = x; } let x = z; return x - y; } system s { }",
			"Tick, Push yes, Unless 9, Tick, Local 1, Store 2, Tick, Local 2, Store 0, Tick, Local 0, Store 3, Tick, Local 3, Local 1, Op 2, Back, End", []int{0, 17}, []int{4, 0}, nil},
		statementCase("let z = 1; hear Hit as y { let x = y; z = x; } let y = z; hear Hit as x { z = x + y; }",
			"Tick, Push 1, Store 0, Tick, Hear 0, More 13 1, Tick, Local 1, Store 2, Tick, Local 2, Store 0, Jump 5, "+
				"Tick, Local 0, Store 3, Tick, Hear 0, More 25 4, Tick, Local 4, Local 3, Op 1, Store 0, Jump 18, End", 5),
		// the names of an NHear that are alike, beside one another, and behind them a let
		statementCase("hear Hit as h { h = 1; } hear Burn as h { h = 1.5; } let h = yes; h = h;",
			"Tick, Hear 0, More 7 0, Tick, Push 1, Store 0, Jump 2, Tick, Hear 1, More 14 1, Tick, Push 1.5, Store 1, Jump 9, Tick, Push yes, Store 2, Tick, Local 2, Store 2, End", 3),
		// a local is numbered behind those of an inner block that stands ahead
		statementCase("loop 1 { hear Hit as a { let b = a; } } let c = 2; c = c;",
			"Tick, Push 1, Loop 11, Tick, Hear 0, More 10 0, Tick, Local 0, Store 1, Jump 5, Jump 2, Tick, Push 2, Store 2, Tick, Local 2, Store 2, End", 3),
		// each function counts its own from 0 on
		{"fn f(a int) int { let b = a; return b; } fn g(a int) int { let c = a; return c; } system s { let d = 1; d = d; }",
			"Tick, Local 0, Store 1, Tick, Local 1, Back, Tick, Local 0, Store 1, Tick, Local 1, Back, Tick, Push 1, Store 0, Tick, Local 0, Store 0, End", []int{0, 6, 12}, []int{2, 2, 1}, nil},
		// what is never asked for is a local all the same
		{"fn f(a int, b int) int { let c = 1; return 2; } system s { hear Hit as h { } let i = 1; }",
			"Tick, Push 1, Store 2, Tick, Push 2, Back, Tick, Hear 0, More 10 0, Jump 8, Tick, Push 1, Store 1, End", []int{0, 6}, []int{3, 2}, nil},
	})
}

func TestCodeOfCalls(t *testing.T) {
	two := "fn f(a int) int { return a; } fn g(a int, b int) int { return b; } "
	starts, slots := []int{0, 3, 6}, []int{1, 2, 0}
	both := "Tick, Local 0, Back, Tick, Local 1, Back, "
	allCompile(t, []codeCase{
		{two + "system s { do f(1); }", both + "Tick, Push 1, Call 0 1, Forget, End", starts, slots, nil},
		{two + "system s { do g(1, 2); }", both + "Tick, Push 1, Push 2, Call 1 2, Forget, End", starts, slots, nil},
		// within one another's kids
		{two + "system s { do f(f(f(1))); }", both + "Tick, Push 1, Call 0 1, Call 0 1, Call 0 1, Forget, End", starts, slots, nil},
		{two + "system s { do g(f(1), g(2, f(3))); }", both + "Tick, Push 1, Call 0 1, Push 2, Push 3, Call 0 1, Call 1 2, Call 1 2, Forget, End", starts, slots, nil},
		{two + "system s { $Score = g(1 + f(2), -f(3)) * f(4); }", both + "Tick, Push 1, Push 2, Call 0 1, Op 1, Push 3, Call 0 1, Turn 1, Call 1 2, Push 4, Call 0 1, Op 3, SetRes 0, End", starts, slots, nil},
		// in all that takes a value
		{two + "system s { if f(1) == 2 { } loop f(3) { } emit Hit f(4); }",
			both + "Tick, Push 1, Call 0 1, Push 2, Op 7, Unless 12, Tick, Push 3, Call 0 1, Loop 17, Jump 15, Tick, Push 4, Call 0 1, Emit 0, End", starts, slots, nil},
		{two + "system s { each with Hp { .Hp = pick(f(1) of Hp); } }", both + "Tick, Each 0 1, Next 15, Tick, Push 1, Call 0 1, Pick 2, SetComp 0, Jump 8, End", starts, slots, [][]int{{0}, {}, {0}}},
		// in functions
		{"fn f() int { return 1; } fn g() int { return f() + f(); } fn h() int { do g(); return f(); } system s { do h(); do g(); do f(); }",
			"Tick, Push 1, Back, Tick, Call 0 0, Call 0 0, Op 1, Back, Tick, Call 1 0, Forget, Tick, Call 0 0, Back, Tick, Call 2 0, Forget, Tick, Call 1 0, Forget, Tick, Call 0 0, Forget, End",
			[]int{0, 3, 8, 14}, []int{0, 0, 0, 0}, nil},
	})
}

// Lists are numbered as their instructions stand in Code, through all
// functions.
func TestCodeOfLists(t *testing.T) {
	allCompile(t, []codeCase{
		// a pick of one name, of one name twice, of several, within one another
		statementCase("each with Hp { $Score = pick(0 of Hp, Hp); }", "Tick, Each 0 1, Next 8, Tick, Push 0, Pick 2, SetRes 0, Jump 2, End", 0, []int{0}, nil, []int{0, 0}),
		statementCase("each with Mp, Hp { $Score = pick(0 of Mp, Hp, Mp); }", "Tick, Each 0 1, Next 8, Tick, Push 0, Pick 2, SetRes 0, Jump 2, End", 0, []int{4, 0}, nil, []int{4, 0, 4}),
		statementCase("each with Mp, Hp { $Score = pick(pick(1 of Mp) of Hp, Mp); }", "Tick, Each 0 1, Next 9, Tick, Push 1, Pick 2, Pick 3, SetRes 0, Jump 2, End", 0, []int{4, 0}, nil, []int{4}, []int{0, 4}),
		statementCase("each with Mp, Hp { $Score = pick(1 of Mp) - pick(2 of Hp); }", "Tick, Each 0 1, Next 11, Tick, Push 1, Pick 2, Push 2, Pick 3, Op 2, SetRes 0, Jump 2, End", 0, []int{4, 0}, nil, []int{4}, []int{0}),
		// an each with several names, in their order
		statementCase("each with Up, Hp, Dir without Pos, On, Mass { }", "Tick, Each 0 1, Next 4, Jump 2, End", 0, []int{7, 0, 6}, []int{2, 3, 1}),
		statementCase("each with Up { } each with Hp without Up { }", "Tick, Each 0 1, Next 4, Jump 2, Tick, Each 2 3, Next 8, Jump 6, End", 0, []int{7}, nil, []int{0}, []int{7}),
		// a spawn of several cells, in their order; each has a list of its own
		statementCase("spawn(Up = yes, Hp = 1 + 2, Heat = 1.5);", "Tick, Push yes, Push 1, Push 2, Op 1, Push 1.5, Spawn 0, End", 0, []int{7, 0, 5}),
		statementCase("spawn(); spawn(); spawn(Hp = 1); spawn();", "Tick, Spawn 0, Tick, Spawn 1, Tick, Push 1, Spawn 2, Tick, Spawn 3, End", 0, nil, nil, []int{0}, nil),
		// the list of a spawn comes behind those of the picks in its cells
		statementCase("each with Hp, Mp { spawn(Mp = pick(1 of Hp), Hp = pick(2 of Mp, Mp)); }",
			"Tick, Each 0 1, Next 10, Tick, Push 1, Pick 2, Push 2, Pick 3, Spawn 4, Jump 2, End", 0, []int{0, 4}, nil, []int{0}, []int{4, 4}, []int{4, 0}),
		{"fn f() int { spawn(Hp = 1); return 1; } fn g() int { spawn(On = no, Up = yes); spawn(); return 2; } system s { each with Mp without Pos { } spawn(Mass = 2.5); }",
			"Tick, Push 1, Spawn 0, Tick, Push 1, Back, Tick, Push no, Push yes, Spawn 1, Tick, Spawn 2, Tick, Push 2, Back, Tick, Each 3 4, Next 19, Jump 17, Tick, Push 2.5, Spawn 5, End",
			[]int{0, 6, 15}, []int{0, 0, 0}, [][]int{{0}, {3, 7}, {}, {4}, {2}, {1}}},
	})
}

// All functions are compiled, also those that are not called and those behind
// the system, in the order of Tops; of the systems the one that is asked for.
func TestCodeOfSeveralTops(t *testing.T) {
	x := checked(t, "system a { $Score = 1; } fn f() int { return 2; } system b { do f(); } fn g(n int) int { return n; } fn h() int { return g(3); } system c { do g(f()); do h(); } fn z() bool { return yes; }")
	functions := "Tick, Push 2, Back, Tick, Local 0, Back, Tick, Push 3, Call 1 1, Back, Tick, Push yes, Back, "
	for name, code := range map[string]string{
		"a": "Tick, Push 1, SetRes 0, End",
		"b": "Tick, Call 0 0, Forget, End",
		"c": "Tick, Call 0 0, Call 1 1, Forget, Tick, Call 2 0, Forget, End",
	} {
		compiles(t, checkReg(), x, name, impl.Program{Code: codeOf(functions + code), Starts: []int{0, 3, 6, 10, 13}, Slots: []int{0, 1, 0, 0, 0}})
	}
	laidOut(t, checkReg(), x)
	// no function at all, and a system that is empty among others
	x = checked(t, "system a { } system b { $Score = 1; } system c { let d = 1; }")
	for name, want := range map[string]impl.Program{
		"a": {Code: codeOf("End"), Starts: []int{0}, Slots: []int{0}},
		"b": {Code: codeOf("Tick, Push 1, SetRes 0, End"), Starts: []int{0}, Slots: []int{0}},
		"c": {Code: codeOf("Tick, Push 1, Store 0, End"), Starts: []int{0}, Slots: []int{1}},
	} {
		compiles(t, checkReg(), x, name, want)
	}
	laidOut(t, checkReg(), x)
}

func TestCodeOfNumbers(t *testing.T) {
	for _, n := range []string{"0", "1", "9", "10", "999999999999999", "100000000000000", "9007199254740"} {
		allCompile(t, []codeCase{statementCase("$Score = "+n+";", "Tick, Push "+n+", SetRes 0, End", 0)})
		allCompile(t, []codeCase{statementCase("$Score = -"+n+";", "Tick, Push "+n+", Turn 1, SetRes 0, End", 0)})
	}
	for _, x := range []string{
		"0.0", "0.000000", "1.0", "1.000000", "10.0", "100.010", "0.5", "0.50", "0.500000", "0.000001", "0.100000", "0.1", "0.3", "0.7", "2.675", "1.005",
		"999999999.999999", "999999999.0", "100000000.000001", "123456789.123456",
	} {
		allCompile(t, []codeCase{statementCase("$Wind = "+x+";", "Tick, Push "+x+", SetRes 1, End", 0)})
		allCompile(t, []codeCase{statementCase("$Wind = -"+x+";", "Tick, Push "+x+", Turn 1, SetRes 1, End", 0)})
	}
}

// A text with every kind of node.
func TestCodeOfWholeText(t *testing.T) {
	x := checked(t, wholeText)
	laidOut(t, checkReg(), x)
	p, ok := impl.Compile(checkReg(), x, "rest")
	functions := "Tick, Local 0, Push 2, Op 4, Back, " +
		"Tick, Local 0, Local 1, Op 2, Store 2, Tick, Push 4.5, Store 3, Tick, Local 3, Res 1, Op 6, Unless 23, Tick, Res 1, Push 2.0, Op 3, Store 3, Tick, Local 3, Local 2, Turn 6, Op 6, Back, " +
		"Tick, Local 0, Call 0 1, Loop 39, Tick, Res 0, Push 1, Op 1, SetRes 0, Jump 32, " +
		"Tick, Local 1, Local 0, Push 0, Op 7, Turn 2, Op 8, Unless 53, Tick, Local 0, Push 1, Op 1, Store 0, Jump 61, " +
		"Tick, Local 0, Push 1, Op 2, Store 0, Tick, Local 1, Emit 3, Tick, Local 0, Local 1, Spawn 0, Tick, Local 0, Back, "
	rest := "Tick, Hear 1, More 82 0, Tick, Local 0, Res 2, Turn 3, Pair, Turn 4, Push 3, Turn 5, Op 4, SetRes 1, Jump 70, End"
	want := impl.Program{Code: codeOf(functions + rest), Starts: []int{0, 5, 29, 68}, Slots: []int{1, 4, 2, 1}, Lists: [][]int{{0, 3}}}
	if !ok || !sameProgram(p, want) {
		t.Errorf("the second system: %v%s\nnot%s", ok, progText(p), progText(want))
	}
	p, ok = impl.Compile(checkReg(), x, "go")
	met := map[int]bool{}
	for _, one := range p.Code {
		met[one.Op] = true
	}
	if !ok || len(met) != impl.IEnd {
		t.Errorf("not every instruction is met: %v%s", ok, progText(p))
	}
}

// The numbers are those of the Reg that is handed in.
func TestCodeByAnotherReg(t *testing.T) {
	x := checked(t, "system s { $Over = $Over; each with Hp, Up { .Up = yes; } }")
	compiles(t, checkReg(), x, "s", impl.Program{
		Code: codeOf("Tick, Res 3, SetRes 3, Tick, Each 0 1, Next 10, Tick, Push yes, SetComp 7, Jump 5, End"), Starts: []int{0}, Slots: []int{0}, Lists: [][]int{{0, 7}, {}},
	})
	r := impl.Reg{Comps: []impl.Decl{decl("Up", impl.KBool), decl("Hp", impl.KPair)}, Ress: []impl.Decl{decl("A", impl.KInt), decl("Over", impl.KReal)}}
	compiles(t, r, x, "s", impl.Program{
		Code: codeOf("Tick, Res 1, SetRes 1, Tick, Each 0 1, Next 10, Tick, Push yes, SetComp 0, Jump 5, End"), Starts: []int{0}, Slots: []int{0}, Lists: [][]int{{1, 0}, {}},
	})
	// a Reg that is full, and its last numbers
	r = impl.Reg{Comps: decls("C", impl.MaxDecls), Ress: decls("R", impl.MaxDecls), Evts: decls("V", impl.MaxDecls)}
	for i := range r.Comps {
		r.Comps[i].Kind, r.Ress[i].Kind, r.Evts[i].Kind = impl.KInt, impl.KInt, impl.KInt
	}
	x = parsedTree(t, "system s { each with Cl without Ck { .Cl = .Cl; put Ck = $Rl; drop Cl; } $Rl = 1; emit Vl 2; hear Vl as h { spawn(Cl = h); } }")
	compiles(t, r, x, "s", impl.Program{
		Code: codeOf("Tick, Each 0 1, Next 12, Tick, Comp 11, SetComp 11, Tick, Res 11, Put 10, Tick, Drop 11, Jump 2, " +
			"Tick, Push 1, SetRes 11, Tick, Push 2, Emit 11, Tick, Hear 11, More 25 0, Tick, Local 0, Spawn 2, Jump 20, End"),
		Starts: []int{0}, Slots: []int{1}, Lists: [][]int{{11}, {10}, {11}},
	})
	laidOut(t, r, x)
}

// Trees as great and as deep as they can be, which no text could tell.
func TestCodeOfGreatTrees(t *testing.T) {
	var spawns []*plant
	for range impl.MaxNodes - 2 {
		spawns = append(spawns, grown(impl.NSpawn))
	}
	x := treeOf(systemPlant("s", spawns...))
	p, ok := impl.Compile(checkReg(), x, "s")
	if !ok || len(p.Code) != 2*(impl.MaxNodes-2)+1 || len(p.Lists) != impl.MaxNodes-2 || len(p.Code) > impl.MaxCode {
		t.Error("many statements:", ok, len(p.Code), len(p.Lists))
	}
	keepsToItself(t, checkReg(), p)
	if p, ok = impl.Compile(checkReg(), treeOf(systemPlant("s", append(spawns, grown(impl.NSpawn))...)), "s"); ok || len(p.Code) != 0 {
		t.Error("too many nodes:", ok, len(p.Code))
	}
	deepChoices(t)
	deepRounds(t)
	e := wholeLeaf(1)
	for range 1300 {
		e = turnPlant(impl.TurnNeg, opPlant(impl.OpSub, wholeLeaf(2), e))
	}
	x = treeOf(systemPlant("s", named(impl.NSetRes, "Score", e)))
	p, ok = impl.Compile(checkReg(), x, "s")
	if !ok || len(p.Code) != 1+1301+2600+2 || p.Code[1301].V != whole(1) || p.Code[1302].Op != impl.IOp {
		t.Error("a deep expression:", ok, len(p.Code))
	}
	keepsToItself(t, checkReg(), p)
}

// Each choice stands in the else of the one around it: all jumps lead to the
// end.
func deepChoices(t *testing.T) {
	t.Helper()
	const deep = 990
	var within []*plant
	for range deep {
		within = []*plant{grown(impl.NIf, yesLeaf(1), blockPlant(), blockPlant(within...))}
	}
	p, ok := impl.Compile(checkReg(), treeOf(systemPlant("s", within...)), "s")
	if !ok || len(p.Code) != 4*deep+1 {
		t.Fatal("deep choices:", ok, len(p.Code))
	}
	for i := range deep {
		if p.Code[4*i+2] != (impl.Ins{Op: impl.IUnless, A: 4*i + 4}) || p.Code[4*i+3] != (impl.Ins{Op: impl.IJump, A: 4 * deep}) {
			t.Fatal("deep choices at", i, p.Code[4*i:4*i+4])
		}
	}
}

// Each loop stands in the one around it, with a local of its own ahead of it
// that it names.
func deepRounds(t *testing.T) {
	t.Helper()
	const deep = 700
	var within []*plant
	for i := deep - 1; i >= 0; i-- {
		within = []*plant{named(impl.NLet, longName(i), wholeLeaf(i)), grown(impl.NLoop, localLeaf(longName(i)), blockPlant(within...))}
	}
	p, ok := impl.Compile(checkReg(), treeOf(systemPlant("s", within...)), "s")
	if !ok || len(p.Code) != 7*deep+1 || len(p.Slots) != 1 || p.Slots[0] != deep {
		t.Fatal("deep rounds:", ok, len(p.Code), p.Slots)
	}
	for i := range deep {
		if p.Code[6*i+2].A != i || p.Code[6*i+4].A != i || p.Code[6*i+5].A != 7*deep-i || p.Code[7*deep-1-i].A != 6*i+5 {
			t.Fatal("deep rounds at", i, p.Code[6*i:6*i+6], p.Code[7*deep-1-i])
		}
	}
	keepsToItself(t, checkReg(), p)
}

// A row of functions, each of which calls the one ahead.
func TestCodeOfALongRowOfFunctions(t *testing.T) {
	const many = 900
	tops := []*plant{fnPlant(longName(0), impl.KInt, blockPlant(grown(impl.NReturn, wholeLeaf(5))))}
	for i := 1; i < many; i++ {
		tops = append(tops, fnPlant(longName(i), impl.KInt, blockPlant(grown(impl.NReturn, named(impl.NCall, longName(i-1))))))
	}
	p, ok := impl.Compile(checkReg(), treeOf(append(tops, systemPlant("s", grown(impl.NDo, named(impl.NCall, longName(many-1)))))...), "s")
	if !ok || len(p.Starts) != many+1 || len(p.Slots) != many+1 || len(p.Code) != 3*many+4 {
		t.Fatal("many functions:", ok, len(p.Starts), len(p.Slots), len(p.Code))
	}
	for i := range many + 1 {
		if p.Starts[i] != 3*i || p.Slots[i] != 0 || i > 0 && p.Code[3*i+1] != (impl.Ins{Op: impl.ICall, A: i - 1}) {
			t.Fatal("function", i, p.Starts[i], p.Slots[i], p.Code[3*i+1])
		}
	}
	keepsToItself(t, checkReg(), p)
}

// A text as long as it can be.
func TestCodeOfALongText(t *testing.T) {
	one := "loop 1{kill;}"
	head, tail := "system s{each with Hp{", "}}"
	many := (impl.MaxText - len(head) - len(tail)) / len(one)
	text := head + strings.Repeat(one, many) + tail
	text += strings.Repeat(" ", impl.MaxText-len(text))
	x := checked(t, text)
	laidOut(t, checkReg(), x)
	p, _ := impl.Compile(checkReg(), x, "s")
	if len(p.Code) != 3+6*many+2 {
		t.Error("a long text:", len(p.Code), many)
	}
}
