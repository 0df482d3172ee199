package tests

import (
	"slices"
	"strings"
	"testing"

	"loop.example/g00070/impl"
)

// What comes to a number below 0 stays, and what stands around it, too.
func TestFoldBelowZero(t *testing.T) {
	stays(t, "3 - 5", "0 - 1", "- 1", "- 999999999999999", "0 - 999999999999999", "- - 1", "- - - 1", "( 3 - 5 ) + 4", "4 + ( 3 - 5 )", "3 - 5 + 2", "0 * ( 0 - 1 )", "- 1 + 1", "- ( 3 - 5 )", "2 - - 2",
		"( 3 - 5 ) < 0", "( 1 - 2 ) == ( 1 - 2 )", "not ( ( 3 - 5 ) < 0 )", "- 7 / 2", "- 7 % 2", "7 / - 2", "7 % - 2", "( 3 - 5 ) * ( 3 - 5 )", "real ( 3 - 5 )", "yes and - 1 < 0")
	folds(t, [][2]string{
		{"( 3 - 5 ) * ( 1 + 1 )", "( 3 - 5 ) * 2"}, {"( 1 + 2 ) - ( 2 + 3 )", "3 - 5"}, {"( 1 + 2 ) - ( 2 + 3 ) + 9", "( 3 - 5 ) + 9"}, {"- ( 2 - 1 )", "- 1"}, {"- ( 1 - 2 )", "- ( 1 - 2 )"},
		{"- ( - 0 + 1 )", "- 1"}, {"not no and - ( 1 + 1 ) < 0", "yes and - 2 < 0"}, {"f ( 3 - 5 , 5 - 3 )", "f ( 3 - 5 , 2 )"},
	})
}

func TestFoldToZero(t *testing.T) {
	folds(t, [][2]string{
		{"3 - 3", "0"}, {"0 + 0", "0"}, {"0 - 0", "0"}, {"0 * 5", "0"}, {"5 * 0", "0"}, {"0 / 5", "0"}, {"4 % 2", "0"}, {"0 % 3", "0"}, {"- 0", "0"}, {"- ( 2 - 2 )", "0"}, {"- 0 - - 0", "0"},
		{"999999999999999 - 999999999999999", "0"}, {"0 == - 0", "yes"}, {"0 < 0", "no"},
	})
}

func TestFoldToTheGreatest(t *testing.T) {
	folds(t, [][2]string{
		{"999999999999998 + 1", "999999999999999"}, {"1 + 999999999999998", "999999999999999"}, {"999999999999999 + 0", "999999999999999"}, {"999999999999999 - 0", "999999999999999"},
		{"999999999999999 * 1", "999999999999999"}, {"333333333333333 * 3", "999999999999999"}, {"999999999999999 / 1", "999999999999999"}, {"999999999999998 + 1 - 1", "999999999999998"},
		{"999999999999999 == 999999999999998 + 1", "yes"}, {"999999999999999 < 999999999999999", "no"}, {"999999999999999 % 999999999999998", "1"},
	})
	// one more, and what stands around it
	stays(t, "999999999999999 + 1", "1 + 999999999999999", "500000000000000 * 2", "200000000000000 * 5", "999999999999999 + 999999999999999", "999999999999999 + 1 - 1", "( 999999999999999 + 1 ) / 2", "( 999999999999999 + 1 ) % 2",
		"999999999999999 < 999999999999999 + 1", "999999999999999 + 1 == 500000000000000 * 2", "- ( 999999999999999 + 1 )", "- 999999999999999")
	folds(t, [][2]string{{"( 999999999999998 + 1 ) + ( 1 * 1 )", "999999999999999 + 1"}})
}

// Products that wrap round are what they are behind that.
func TestFoldThatWrapsRound(t *testing.T) {
	folds(t, [][2]string{
		{"4294967296 * 4294967296", "0"}, {"4294967296 * 4294967297", "4294967296"}, {"4294967297 * 4294967297", "8589934593"}, {"8589934592 * 4294967296", "0"},
		{"4294967296 * 4294967296 == 0", "yes"}, {"999999999999999 * 0", "0"},
	})
	const least = "4294967296 * 2147483648"
	stays(t, least, "- ( "+least+" )", "( "+least+" ) / ( 0 - 1 )", "( "+least+" ) - 1", "3037000500 * 3037000500", "999999999999999 * 999999999999999", "( 4294967296 * 1073741824 ) * 2")
}

func TestFoldOfDivisionsByZero(t *testing.T) {
	stays(t, "7 / 0", "7 % 0", "0 / 0", "0 % 0", "999999999999999 / 0", "( 7 / 0 ) * 0", "0 * ( 7 % 0 )", "7 / 0 == 7 / 0", "( 7 / 0 ) < 1 and no", "no and 1 / 0 == 1", "yes or 1 % 0 < 1", "- ( 7 / 0 )")
	folds(t, [][2]string{{"7 / ( 3 - 3 )", "7 / 0"}, {"( 3 + 4 ) % ( 1 - 1 )", "7 % 0"}, {"1 / - 0", "1 / 0"}, {"7 / 0 + 1 * 1", "7 / 0 + 1"}, {"0 / ( 1 / ( 1 + 1 ) )", "0 / 0"}})
}

// An op, and a turn, that is not for its values.
func TestFoldOfOtherKinds(t *testing.T) {
	for _, op := range opSigns[1:] {
		stays(t, "1 "+op+" yes", "no "+op+" 0", "yes "+op+" 1", "0 "+op+" no", "( 1 + yes ) "+op+" 1", "1 "+op+" ( not 0 )")
	}
	stays(t, "yes + no", "yes - no", "yes * yes", "yes / yes", "no % yes", "no < yes", "1 and 1", "1 or 0", "0 and 0", "( 1 and 2 ) == ( 1 or 2 )", "not 1", "not 0", "- yes", "- no",
		"re ( 1 )", "im ( 1 )", "size ( 1 )", "re ( yes )", "im ( no )", "size ( yes )", "real ( yes )", "real ( no )", "not - yes", "- not 1")
	folds(t, [][2]string{{"1 + 1 == not yes", "2 == no"}, {"not ( 1 + 1 )", "not 2"}, {"- ( 1 < 2 )", "- yes"}, {"( 1 < 2 ) < ( 2 < 3 )", "yes < yes"}})
}

// Reals and pairs stay, whatever an op or a turn would tell of them.
func TestFoldOfRealsAndPairs(t *testing.T) {
	stays(t, "1.5 + 1.5", "1.5 - 1.5", "1.5 * 2.0", "1.5 / 0.0", "1.5 < 2.5", "1.5 == 1.5", "0.0 == 0.0", "- 1.5", "- 0.0", "real ( 1 )", "real ( 0 )", "real ( 1 ) == real ( 1 )", "real ( 1 ) < 1.5", "- real ( 0 )", "not ( 1.5 < 2.5 )", "1.5 < 2.5 and yes",
		"pair ( 1.5 , 2.5 )", "pair ( 1.5 , 2.5 ) == pair ( 1.5 , 2.5 )", "- pair ( 0.0 , 0.0 )", "re ( pair ( 1.5 , 2.5 ) )", "im ( pair ( 1.5 , 2.5 ) )", "size ( pair ( 0.0 , 0.0 ) )", "pair ( real ( 1 ) , real ( 2 ) )", "pair ( 1 , 2 )", "pair ( yes , no )", "pair ( 0 , 0 ) == pair ( 0 , 0 )")
	folds(t, [][2]string{{"real ( 1 + 1 )", "real ( 2 )"}, {"real ( - 0 )", "real ( 0 )"}, {"real ( 1 + 1 ) + 1.5", "real ( 2 ) + 1.5"}, {"pair ( real ( 1 + 1 ) , 0.5 )", "pair ( real ( 2 ) , 0.5 )"}})
}

// All ops and turns of numbers and yes and no about the limits.
func TestFoldAboutTheLimits(t *testing.T) {
	leaves := []*plant{yesLeaf(0), yesLeaf(1)}
	for _, n := range []int{0, 1, 2, 3, 7, 46341, 1 << 31, 1 << 32, 1<<32 + 1, 3037000499, 3037000500, 333333333333333, 499999999999999, 500000000000000, 999999999999998, 999999999999999} {
		leaves = append(leaves, wholeLeaf(n))
	}
	ops, turns, stay := 0, 0, 0
	for _, a := range leaves {
		for op := impl.TurnNeg; op <= impl.TurnSize; op++ {
			x := treeOf(valueOf(turnPlant(op, a)))
			foldIs(t, x, plainFold(x))
			turns++
		}
		for _, b := range leaves {
			for op := impl.OpAdd; op <= impl.OpOr; op++ {
				x := treeOf(valueOf(opPlant(op, a, b)))
				want := plainFold(x)
				foldIs(t, x, want)
				ops++
				stay += countIf(sameTree(x, want))
			}
		}
	}
	if ops != 18*18*9 || turns != 18*6 || stay < 900 || stay > 2000 {
		t.Error("ops", ops, "turns", turns, "stay", stay)
	}
}

// Folding asks no Check.
func TestFoldOfTreesThatMayNotRun(t *testing.T) {
	for _, c := range [][2]string{
		{"system s { kill ; x = 1 + 1 ; } system s { return 2 * 2 ; }", "system s { kill ; x = 2 ; } system s { return 4 ; }"},
		{"fn f ( a int , a int ) real { } fn f ( ) int { return f ( 1 + 1 ) ; }", "fn f ( a int , a int ) real { } fn f ( ) int { return f ( 2 ) ; }"},
		{"system s { if 1 + 1 { } loop not no { } }", "system s { if 2 { } loop yes { } }"},
		{"system s { each with A , A { each with B { . C = 3 - 1 ; } } spawn ( A = 1 , A = 1 + 1 ) ; }", "system s { each with A , A { each with B { . C = 2 ; } } spawn ( A = 1 , A = 2 ) ; }"},
		{"system s { do g ( 1 < 2 ) ; $ Q = yes + ( not no ) ; }", "system s { do g ( yes ) ; $ Q = yes + yes ; }"},
	} {
		x := parsedTree(t, c[0])
		if code, _ := impl.Check(checkReg(), x); code == impl.ChkDone {
			t.Error("it may run:", c[0])
		}
		folded(t, c[0], c[1])
		sizesAre(t, x, countedSizes(x)...)
	}
}

func TestTreeWithoutTops(t *testing.T) {
	for _, x := range []impl.Tree{{}, {Nodes: []impl.Node{}, Tops: []int{}}} {
		foldIs(t, x, impl.Tree{})
		sizesAre(t, x)
		for _, r := range []impl.Reg{{}, checkReg()} {
			for _, name := range []string{"", "s", "Hp"} {
				notPruned(t, "no tops", r, x, name)
			}
		}
	}
}

// MaxNodes nodes, flat ones and deep ones, and one more.
func TestSmallerTreesAtMaxNodes(t *testing.T) {
	turned := func(e *plant, n int) *plant {
		for range n {
			e = turnPlant(impl.TurnNot, e)
		}
		return named(impl.NSetRes, "Over", e)
	}
	sum := func(e *plant, n int) *plant {
		for range n / 2 {
			e = opPlant(impl.OpAdd, e, wholeLeaf(1))
		}
		return named(impl.NSetRes, "Score", e)
	}
	kills := func(n int) []*plant { return slices.Repeat([]*plant{grown(impl.NDo, named(impl.NCall, "f"))}, n/2) }
	f := fnPlant("f", impl.KInt, blockPlant(grown(impl.NReturn, wholeLeaf(1)))) // four nodes
	const room = impl.MaxNodes - 4 - 2
	for i, c := range []struct{ is, folded *plant }{
		{systemPlant("s", turned(yesLeaf(1), room-2)), systemPlant("s", turned(yesLeaf(1), 0))},
		{systemPlant("s", turned(leaf(impl.NRes, "Over", 0), room-2)), systemPlant("s", turned(leaf(impl.NRes, "Over", 0), room-2))},
		{systemPlant("s", sum(wholeLeaf(0), room-2)), systemPlant("s", named(impl.NSetRes, "Score", wholeLeaf((room-2)/2)))},
		{systemPlant("s", sum(leaf(impl.NRes, "Score", 0), room-2)), systemPlant("s", sum(leaf(impl.NRes, "Score", 0), room-2))},
		{systemPlant("s", kills(room)...), systemPlant("s", kills(room)...)},
	} {
		x := treeOf(f, c.is)
		if len(x.Nodes) != impl.MaxNodes {
			t.Fatal("form", i, "has", len(x.Nodes), "nodes")
		}
		foldIs(t, x, treeOf(f, c.folded))
		sizesAre(t, x, 4, impl.MaxNodes-4)
		pruneIs(t, checkReg(), x, "f", []int{0})
		if i == 4 {
			pruneIs(t, checkReg(), x, "s", []int{0, 1})
		} else {
			pruneIs(t, checkReg(), x, "s", []int{1})
		}
		more := treeOf(f, c.is, systemPlant("t"))
		one := treeOf(f, systemPlant("s", append([]*plant{grown(impl.NSpawn)}, c.is.kids[0].kids...)...))
		if len(one.Nodes) != impl.MaxNodes+1 {
			t.Fatal("form", i, "has", len(one.Nodes), "nodes, not one more")
		}
		for _, y := range []impl.Tree{one, more} {
			notFolded(t, "more than MaxNodes", y)
			for _, name := range []string{"f", "s", "t", ""} {
				notPruned(t, "more than MaxNodes", checkReg(), y, name)
			}
		}
	}
	// as many tops as there can be
	x := treeOf(slices.Repeat([]*plant{systemPlant("s")}, impl.MaxNodes/2)...)
	foldIs(t, x, x)
	sizesAre(t, x, slices.Repeat([]int{2}, impl.MaxNodes/2)...)
}

// Many functions, each of which calls all ahead, and a long chain of calls.
func TestPruneOfManyFunctions(t *testing.T) {
	var tops []string
	var names []string
	called := ""
	for i := range 16 {
		name := string(rune('A' + i))
		tops = append(tops, "fn "+name+" ( ) int { "+called+"return 1 ; }")
		reaches(t, tops, name, names...)
		called += "do " + name + " ( ) ; "
		names = append(names, name)
	}
	const count = 500
	var chain []*plant
	var kept []int
	for i := range count {
		name := "f" + strings.Map(func(r rune) rune { return 'a' + r - '0' }, impl.ValText(whole(i)))
		e := wholeLeaf(1)
		if i > 1 {
			e = named(impl.NCall, chain[i-2].text)
		}
		chain = append(chain, fnPlant(name, impl.KInt, blockPlant(grown(impl.NReturn, e))))
		if i%2 == 1 {
			kept = append(kept, i)
		}
	}
	x := treeOf(chain...)
	pruneIs(t, checkReg(), x, chain[count-1].text, kept)
	pruneIs(t, checkReg(), x, chain[1].text, kept[:1])
}

// Which names there are: of tops alone, and of one at most.
func TestPruneByName(t *testing.T) {
	tops := []string{"fn f ( a int ) int { let b = a ; return b ; }", "system Hp { hear Hit as h { $ Score = f ( h ) ; } each with Hp { . Hp = 1 ; } }", "fn Score ( ) int { return f ( 1 ) ; }", "system Hit { do Score ( ) ; }"}
	reaches(t, tops, "f")
	reaches(t, tops, "Hp", "f")
	reaches(t, tops, "Score", "f")
	reaches(t, tops, "Hit", "f", "Score")
	x := checked(t, strings.Join(tops, " "))
	for _, name := range []string{"", "a", "b", "h", "hp", "F", "ff", "f ", " f", "fn", "system", "Over", "f\x00", "\xff", "int", strings.Repeat("f", 100000)} {
		notPruned(t, "a name that no top has", checkReg(), x, name)
	}
	// two tops of one name are a fault, wherever they stand
	for _, text := range []string{"system s { } system s { }", "fn f ( ) int { return 1 ; } system f { }", "system f { } fn f ( ) int { return 1 ; }", "fn f ( ) int { return 1 ; } fn f ( ) int { return 1 ; } system s { do f ( ) ; }"} {
		x := parsedTree(t, text)
		for _, name := range []string{"s", "f", ""} {
			notPruned(t, "two tops of one name", checkReg(), x, name)
		}
		sizesAre(t, x, countedSizes(x)...)
	}
}

// What is named and not reached goes; so does what stands behind, even if it
// calls the one that stays.
func TestPruneLeavesOutWhatIsBehind(t *testing.T) {
	tops := []string{
		"fn a ( ) int { return 1 ; }", "fn b ( ) int { return a ( ) ; }", "fn c ( ) int { return b ( ) ; }", "system s { do b ( ) ; }", "fn d ( ) int { return c ( ) + b ( ) ; }", "system t { do d ( ) ; do b ( ) ; }",
	}
	reaches(t, tops, "b", "a")
	reaches(t, tops, "s", "a", "b")
	reaches(t, tops, "c", "a", "b")
	reaches(t, tops, "d", "a", "b", "c")
	reaches(t, tops, "t", "a", "b", "c", "d")
	// a local, a column, a resource or a stream of a function's name is no call
	reaches(t, []string{"fn Hp ( ) int { return 1 ; }", "fn Score ( ) int { return 2 ; }", "fn Hit ( ) int { return 3 ; }", "fn a ( ) int { return 4 ; }",
		"system s { let a = 1 ; $ Score = a ; emit Hit a ; each with Hp { . Hp = pick ( 1 of Hp ) ; put Hp = a ; drop Hp ; } spawn ( Hp = 1 ) ; }"}, "s")
}
