package tests

import (
	"strings"
	"testing"

	"loop.example/g00070/impl"
)

func TestFoldOfEachOp(t *testing.T) {
	folds(t, [][2]string{
		{"1 + 2", "3"}, {"7 - 3", "4"}, {"6 * 7", "42"}, {"7 / 2", "3"}, {"6 / 2", "3"}, {"2 / 7", "0"}, {"7 % 3", "1"}, {"2 % 7", "2"},
		{"1 < 2", "yes"}, {"2 < 1", "no"}, {"2 < 2", "no"}, {"3 == 3", "yes"}, {"3 == 4", "no"}, {"4 == 3", "no"},
		{"yes == yes", "yes"}, {"yes == no", "no"}, {"no == yes", "no"}, {"no == no", "yes"},
		{"yes and yes", "yes"}, {"yes and no", "no"}, {"no and yes", "no"}, {"no and no", "no"},
		{"yes or yes", "yes"}, {"yes or no", "yes"}, {"no or yes", "yes"}, {"no or no", "no"},
	})
}

func TestFoldOfEachTurn(t *testing.T) {
	folds(t, [][2]string{{"not yes", "no"}, {"not no", "yes"}, {"- 0", "0"}, {"not not yes", "yes"}, {"not not no", "no"}, {"- - 0", "0"}, {"- - - 0", "0"}})
	stays(t, "- 1", "real ( 1 )", "real ( 0 )")
}

// One leaf, and one that is none; what stands in that one is folded all the
// same.
func TestFoldBesideOthers(t *testing.T) {
	stays(t, "1 + x", "x + 1", "x + y", "1 < $ X", ". H == 1", "x and yes", "yes or x", "no and f ( )", "not x", "- x", "- $ X", "0 * x", "x - x",
		"f ( ) + 1", "f ( 1 ) + 1", "1 + 1.5", "1.5 + 1", "pair ( 1 , 2 ) + 1", "pick ( 1 of A ) + 1", "pick ( 1 of A , B ) - 1", "x", "1", "1.5", "yes", "f ( )")
	folds(t, [][2]string{
		{"f ( 1 + 1 ) + 1", "f ( 2 ) + 1"}, {"f ( 1 + 1 , not yes , x , 2 * 2 )", "f ( 2 , no , x , 4 )"}, {"pick ( 1 + 1 of A , B )", "pick ( 2 of A , B )"},
		{"pair ( 1 + 1 , 2 * 2 )", "pair ( 2 , 4 )"}, {"re ( x + ( 1 + 1 ) )", "re ( x + 2 )"}, {"- ( x + ( 1 + 1 ) )", "- ( x + 2 )"}, {"not f ( not no )", "not f ( yes )"},
		{"f ( g ( 1 + 1 ) , - 0 )", "f ( g ( 2 ) , 0 )"},
	})
}

// What is folded is folded on with what stands beside it.
func TestFoldNested(t *testing.T) {
	folds(t, [][2]string{
		{"1 + 2 + 3", "6"}, {"1 + 2 * 3", "7"}, {"( 1 + 2 ) * 3", "9"}, {"( 1 + 2 ) * ( 3 + 4 )", "21"}, {"1 + 2 + x", "3 + x"}, {"x + ( 1 + 2 )", "x + 3"},
		{"1 + 2 < 3 + 4 and not no", "yes"}, {"not ( 1 < 2 ) or 4 == 4", "yes"}, {"( 1 < 2 ) == ( 2 < 1 )", "no"}, {"- ( 3 - 3 )", "0"}, {"- ( 3 - 3 ) + x", "0 + x"},
		{"( 1 + 1 ) * x + ( 2 + 2 ) * y", "2 * x + 4 * y"}, {"2 - ( 5 - 4 )", "1"}, {"( 10 - 3 ) % ( 8 / 2 )", "3"}, {"1 < 2 and x", "yes and x"},
		{"x + ( 1 + ( 2 + ( 3 + 4 ) ) )", "x + 10"}, {"1 + ( 2 + ( x + ( 3 + 4 ) ) )", "1 + ( 2 + ( x + 7 ) )"}, {"not ( not ( 1 == 1 ) )", "yes"},
		{"( 7 / 0 ) + 1 * 1", "( 7 / 0 ) + 1"},
	})
	// from the left: the 1 and the 2 have no op of their own
	stays(t, "x + 1 + 2", "x * 2 * 3", "x and yes and no", "1 + x + 2")
}

// In each statement, and in functions as in systems.
func TestFoldInEachStatement(t *testing.T) {
	const text = "fn f ( a int , b bool ) int { let c = %2 ; do g ( %2 , %no ) ; return %2 ; }\n" +
		"system s { let a = %2 ; a = %2 ; . H = %2 ; $ S = %2 ; if %no { a = %2 ; } if %no { a = %2 ; } else { b = %no ; } loop %2 { kill ; emit E %2 ; }" +
		" each with A , B without C { put A = %2 ; drop B ; kill ; } hear E as h { a = h + %2 ; } spawn ( A = %2 , B = %no , C = x ) ; spawn ( ) ; do f ( %2 , %no ) ; }\n" +
		"fn g ( ) bool { return %no ; } system t { }"
	plain := strings.NewReplacer("%2", "2", "%no", "no").Replace(text)
	folded(t, strings.NewReplacer("%2", "( 1 + 1 )", "%no", "( not ( 2 == 1 + 1 ) )").Replace(text), plain)
	folded(t, strings.NewReplacer("%2", "( 7 % 5 - ( - 0 ) )", "%no", "( 2 < 1 or 0 == 1 )").Replace(text), plain)
	folded(t, plain, plain)
}

// Told node by node: the text is
// system s { x = 1 + 2 + y ; } system t { kill ; x = not no ; }
func TestFoldNodeByNode(t *testing.T) {
	x := impl.Tree{
		Nodes: []impl.Node{
			{Kind: impl.NInt, I: 1}, {Kind: impl.NInt, I: 2}, {Kind: impl.NOp, I: impl.OpAdd, Kids: []int{0, 1}}, {Kind: impl.NLocal, Text: "y"}, {Kind: impl.NOp, I: impl.OpAdd, Kids: []int{2, 3}},
			{Kind: impl.NStore, Text: "x", Kids: []int{4}}, {Kind: impl.NBlock, Kids: []int{5}}, {Kind: impl.NSystem, Text: "s", Kids: []int{6}},
			{Kind: impl.NKill}, {Kind: impl.NYesNo}, {Kind: impl.NTurn, I: impl.TurnNot, Kids: []int{9}}, {Kind: impl.NStore, Text: "x", Kids: []int{10}}, {Kind: impl.NBlock, Kids: []int{8, 11}},
			{Kind: impl.NSystem, Text: "t", Kids: []int{12}},
		},
		Tops: []int{7, 13},
	}
	foldIs(t, x, impl.Tree{
		Nodes: []impl.Node{
			{Kind: impl.NInt, I: 3}, {Kind: impl.NLocal, Text: "y"}, {Kind: impl.NOp, I: impl.OpAdd, Kids: []int{0, 1}},
			{Kind: impl.NStore, Text: "x", Kids: []int{2}}, {Kind: impl.NBlock, Kids: []int{3}}, {Kind: impl.NSystem, Text: "s", Kids: []int{4}},
			{Kind: impl.NKill}, {Kind: impl.NYesNo, I: 1}, {Kind: impl.NStore, Text: "x", Kids: []int{7}}, {Kind: impl.NBlock, Kids: []int{6, 8}}, {Kind: impl.NSystem, Text: "t", Kids: []int{9}},
		},
		Tops: []int{5, 10},
	})
}

// Each form of each kind of node, by the tests' own folding.
func TestFoldOfEveryKind(t *testing.T) {
	same := 0
	for _, x := range everyKind() {
		want := plainFold(x)
		foldIs(t, x, want)
		same += countIf(sameTree(x, want))
	}
	if same < 30 {
		t.Error("only", same, "have nothing that is folded")
	}
}

// Calls in calls, in blocks, by do; ahead and behind; by two ways.
func TestReachesAndPrune(t *testing.T) {
	tops := []string{
		"fn a ( ) int { return 1 ; }", "fn b ( n int ) int { return n ; }", "fn c ( ) int { return b ( a ( ) ) ; }", "fn d ( ) int { do c ( ) ; return 2 ; }",
		"system r { }", "fn e ( ) int { if yes { loop 2 { do b ( 3 ) ; } } else { let q = a ( ) ; } return 4 ; }", "fn f ( ) int { return d ( ) + e ( ) ; }",
		"system s { do e ( ) ; each with Hp { . Hp = b ( . Hp ) ; } }", "system t { hear Hit as h { $ Score = f ( ) * h ; } }", "fn g ( ) int { return a ( ) ; }", "system u { spawn ( Hp = g ( ) ) ; }",
		"system v { }",
	}
	reaches(t, tops, "a")
	reaches(t, tops, "b")
	reaches(t, tops, "c", "a", "b")
	reaches(t, tops, "d", "a", "b", "c")
	reaches(t, tops, "e", "a", "b")
	reaches(t, tops, "f", "a", "b", "c", "d", "e")
	reaches(t, tops, "g", "a")
	reaches(t, tops, "r")
	reaches(t, tops, "s", "a", "b", "e")
	reaches(t, tops, "t", "a", "b", "c", "d", "e", "f")
	reaches(t, tops, "u", "a", "g")
	reaches(t, tops, "v")
}

// A call in each place where an expression can stand.
func TestReachesFromEachPlace(t *testing.T) {
	fns := []string{"fn n ( ) int { return 1 ; }", "fn m ( ) int { return 2 ; }", "fn b ( ) bool { return yes ; }", "fn w ( k int ) int { return k ; }", "fn x ( ) real { return 1.5 ; }", "fn p ( ) pair { return pair ( 1.5 , 2.5 ) ; }"}
	for _, c := range []struct {
		statement string
		names     []string
	}{
		{"let q = n ( ) ;", []string{"n"}}, {"let q = 1 ; q = n ( ) ;", []string{"n"}}, {"$ Score = n ( ) ;", []string{"n"}}, {"emit Hit n ( ) ;", []string{"n"}}, {"do n ( ) ;", []string{"n"}},
		{"if b ( ) { }", []string{"b"}}, {"if yes { do n ( ) ; }", []string{"n"}}, {"if yes { } else { do n ( ) ; }", []string{"n"}}, {"loop n ( ) { }", []string{"n"}}, {"loop 0 { do n ( ) ; }", []string{"n"}},
		{"each with Hp { do n ( ) ; }", []string{"n"}}, {"each with Hp without On { . Hp = n ( ) ; }", []string{"n"}}, {"each with Hp { put Hp = n ( ) ; }", []string{"n"}}, {"each with Hp { let q = pick ( n ( ) of Hp ) ; }", []string{"n"}},
		{"hear Hit as h { do n ( ) ; }", []string{"n"}}, {"spawn ( Hp = n ( ) ) ;", []string{"n"}}, {"spawn ( Hp = 1 , On = b ( ) ) ;", []string{"b"}},
		{"let q = 1 + n ( ) ;", []string{"n"}}, {"let q = n ( ) + 1 ;", []string{"n"}}, {"let q = n ( ) + n ( ) ;", []string{"n"}}, {"let q = m ( ) + n ( ) ;", []string{"n", "m"}}, {"let q = - n ( ) ;", []string{"n"}},
		{"let q = not b ( ) ;", []string{"b"}}, {"let q = re ( p ( ) ) ;", []string{"p"}}, {"let q = pair ( x ( ) , 1.5 ) ;", []string{"x"}}, {"let q = pair ( 1.5 , x ( ) ) ;", []string{"x"}},
		{"let q = w ( n ( ) ) ;", []string{"n", "w"}}, {"do w ( m ( ) ) ;", []string{"m", "w"}}, {"do w ( w ( w ( 1 ) ) ) ;", []string{"w"}}, {"let q = real ( n ( ) ) ;", []string{"n"}}, {"let q = size ( p ( ) ) ;", []string{"p"}},
		{"let n = 1 ; $ Score = n ;", nil}, {"hear Hit as n { $ Score = n ; }", nil}, {"", nil}, {"$ Score = 1 ;", nil},
	} {
		reaches(t, append(fns, "system s { "+c.statement+" }"), "s", c.names...)
		if !strings.Contains(c.statement, "each") && !strings.Contains(c.statement, "hear") {
			reaches(t, append(fns, "fn s ( ) bool { "+c.statement+" return no ; }", "system t { do s ( ) ; }"), "s", c.names...)
			reaches(t, append(fns, "fn s ( ) bool { "+c.statement+" return no ; }", "system t { do s ( ) ; }"), "t", append(c.names, "s")...)
		}
	}
}

func TestSizesOfTops(t *testing.T) {
	for _, c := range []struct {
		text  string
		sizes []int
	}{
		{"", nil}, {"system s { }", []int{2}}, {"system s { kill ; }", []int{3}}, {"system s { } system t { kill ; kill ; } system u { }", []int{2, 4, 2}},
		{"fn f ( ) int { return 1 ; }", []int{4}}, {"fn f ( a int , b bool ) int { return a + 1 ; } system s { do f ( 1 , no ) ; }", []int{8, 6}},
		{"system s { each with A , B without C { } } system t { each with A { } }", []int{9, 7}}, {"system s { hear E as h { kill ; } }", []int{6}}, {"system s { spawn ( A = 1 , B = x ) ; }", []int{7}},
		{"system s { x = pick ( 1 of A , B ) ; } fn f ( ) int { }", []int{7, 2}},
	} {
		x := parsedTree(t, c.text)
		sizesAre(t, x, c.sizes...)
		sizesAre(t, x, countedSizes(x)...)
	}
	for _, x := range everyKind() {
		sizesAre(t, x, countedSizes(x)...)
	}
}

// A system that is folded and pruned, with each fuel.
func TestSmallerSystemsMeanTheSame(t *testing.T) {
	for _, c := range []struct {
		text  string
		steps int
		fault int
	}{
		{"system s { $Score = 1 + 2 * 3; emit Hit 2 - 1; }", 2, impl.FaultNone},
		{"fn f(n int) int { $Score = $Score + (2 + 3); return n * (1 + 1); } fn g() int { return 1 / 0; } system s { loop 1 + 1 { emit Hit f(3 - 3); } }", 11, impl.FaultNone},
		{"system q { $Score = 9; } fn f() int { return 3 - 5; } system s { $Score = f() + (4 - 2); if 1 < 2 { emit Went not no; } else { emit Went no; } }", 5, impl.FaultNone},
		{"system s { $Score = 2 + 2; emit Hit 7 / (3 - 3); $Score = 5; }", 2, impl.FaultZero},
		{"system s { let a = 1 + 1; $Score = a % (1 - 1); }", 2, impl.FaultZero},
		{"system s { each with Hp { .Hp = .Hp + (10 - 9); put Mp = 2 * 3; if 1 == 2 { kill; } } hear Hit as h { $Score = $Score + h * (2 + 2); } spawn(Hp = 1 + 1, On = not yes); }", 23, impl.FaultNone},
		{"system s { loop 500 - 499 { loop 3 * 3 { emit Hit 1 + 1; } } }", 21, impl.FaultNone},
		{"fn h() int { return 1 + 1; } fn f() int { return h() + h(); } system s { loop 2000 { $Score = f(); } }", impl.MaxFuel, impl.FaultFuel},
	} {
		x := checked(t, c.text)
		fuels := upTo(c.steps + 2)
		if c.steps > 100 {
			fuels = someFuels(c.steps)
		}
		if d := meansTheSame(t, checkReg(), x, "s", runState(), fuels); d.Steps != c.steps || d.Fault != c.fault {
			t.Errorf("%s: %d steps, fault %d", c.text, d.Steps, d.Fault)
		}
		meansTheSame(t, checkReg(), x, "s", fullState(), someFuels(c.steps))
	}
}
