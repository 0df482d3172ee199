package tests

import (
	"slices"
	"strings"
	"testing"

	"loop.example/g00070/impl"
)

func TestTreeConstants(t *testing.T) {
	kinds := []int{
		impl.NInt, impl.NReal, impl.NYesNo, impl.NLocal, impl.NComp, impl.NRes, impl.NCall, impl.NOp, impl.NTurn, impl.NPair, impl.NPick,
		impl.NLet, impl.NStore, impl.NSetComp, impl.NSetRes, impl.NIf, impl.NLoop, impl.NEach, impl.NEmit, impl.NHear, impl.NSpawn, impl.NKill, impl.NPut, impl.NDrop, impl.NDo, impl.NReturn,
		impl.NBlock, impl.NCell, impl.NWith, impl.NWithout, impl.NName, impl.NParam, impl.NFn, impl.NSystem,
	}
	for i, kind := range kinds {
		if kind != i+1 {
			t.Error("kind", i, kind)
		}
	}
	if len(kinds) != 34 || impl.MaxDepth != 40 || impl.MaxNodes != 4000 {
		t.Error("limits", impl.MaxDepth, impl.MaxNodes)
	}
	if impl.ParDone != 0 || impl.ParLex != 1 || impl.ParWant != 2 || impl.ParDeep != 3 {
		t.Error("codes")
	}
}

func TestParseNothing(t *testing.T) {
	for _, text := range []string{"", " ", "\n", "\t \n", "#", "# system s {", "#\n#\n", strings.Repeat(" ", impl.MaxText)} {
		readAs(t, text)
		x, _, _ := impl.Parse(text)
		if s, ok := impl.Print(x); s != "" || !ok {
			t.Errorf("Print of nothing: %q %v", s, ok)
		}
	}
}

type written struct {
	text string
	is   *plant
}

// someExpressions has every row of the table of expressions.
func someExpressions() []written {
	a, b, c := localLeaf("a"), localLeaf("b"), localLeaf("c")
	return []written{
		{"0", wholeLeaf(0)}, {"7", wholeLeaf(7)}, {"999999999999999", wholeLeaf(999999999999999)},
		{"0.0", realLeaf("0.0")}, {"1.50", realLeaf("1.50")}, {"999999999.999999", realLeaf("999999999.999999")},
		{"yes", yesLeaf(1)}, {"no", yesLeaf(0)},
		{"a", a}, {"abcdefghijkl", localLeaf("abcdefghijkl")}, {"Yes", localLeaf("Yes")}, {"nota", localLeaf("nota")},
		{".Hp", leaf(impl.NComp, "Hp", 0)}, {". Hp", leaf(impl.NComp, "Hp", 0)}, {"$Hp", leaf(impl.NRes, "Hp", 0)}, {"$ x", leaf(impl.NRes, "x", 0)},
		{"f()", named(impl.NCall, "f")}, {"f ( )", named(impl.NCall, "f")}, {"f(a)", named(impl.NCall, "f", a)},
		{"f(a,b,c)", named(impl.NCall, "f", a, b, c)}, {"f(g(),g(a),7)", named(impl.NCall, "f", named(impl.NCall, "g"), named(impl.NCall, "g", a), wholeLeaf(7))},
		{"f(a or b,-c)", named(impl.NCall, "f", opPlant(impl.OpOr, a, b), turnPlant(impl.TurnNeg, c))},
		{"a or b", opPlant(impl.OpOr, a, b)}, {"a and b", opPlant(impl.OpAnd, a, b)}, {"a<b", opPlant(impl.OpLess, a, b)}, {"a==b", opPlant(impl.OpSame, a, b)},
		{"a+b", opPlant(impl.OpAdd, a, b)}, {"a-b", opPlant(impl.OpSub, a, b)}, {"a*b", opPlant(impl.OpMul, a, b)}, {"a/b", opPlant(impl.OpDiv, a, b)}, {"a%b", opPlant(impl.OpMod, a, b)},
		{"-a", turnPlant(impl.TurnNeg, a)}, {"not a", turnPlant(impl.TurnNot, a)}, {"-7", turnPlant(impl.TurnNeg, wholeLeaf(7))}, {"- -7", turnPlant(impl.TurnNeg, turnPlant(impl.TurnNeg, wholeLeaf(7)))},
		{"re(a)", turnPlant(impl.TurnRe, a)}, {"im(a)", turnPlant(impl.TurnIm, a)}, {"real(a)", turnPlant(impl.TurnReal, a)}, {"size(a)", turnPlant(impl.TurnSize, a)},
		{"re(a+b)", turnPlant(impl.TurnRe, opPlant(impl.OpAdd, a, b))}, {"re((a))", turnPlant(impl.TurnRe, a)},
		{"pair(a,b)", grown(impl.NPair, a, b)}, {"pair(1.5,-a)", grown(impl.NPair, realLeaf("1.5"), turnPlant(impl.TurnNeg, a))},
		{"pick(a of Q)", pickPlant(a, "Q")}, {"pick(a+1 of Q,R,Q)", pickPlant(opPlant(impl.OpAdd, a, wholeLeaf(1)), "Q", "R", "Q")},
		{"(a)", a}, {"((a))", a}, {"(-a)", turnPlant(impl.TurnNeg, a)}, {"(.Hp)", leaf(impl.NComp, "Hp", 0)}, {"(f(a))", named(impl.NCall, "f", a)},
		{"-f(a)", turnPlant(impl.TurnNeg, named(impl.NCall, "f", a))}, {"-.Hp", turnPlant(impl.TurnNeg, leaf(impl.NComp, "Hp", 0))}, {"not $Hp", turnPlant(impl.TurnNot, leaf(impl.NRes, "Hp", 0))},
		{"-re(a)", turnPlant(impl.TurnNeg, turnPlant(impl.TurnRe, a))}, {"re(-a)", turnPlant(impl.TurnRe, turnPlant(impl.TurnNeg, a))}, {"-(a)", turnPlant(impl.TurnNeg, a)},
		{"pick(pick(1 of A)of B)", pickPlant(pickPlant(wholeLeaf(1), "A"), "B")}, {"pair(pair(a,b),c)", grown(impl.NPair, grown(impl.NPair, a, b), c)},
	}
}

func TestParseExpressions(t *testing.T) {
	for _, e := range someExpressions() {
		readAs(t, asValue(e.text), valueOf(e.is))
		readAs(t, asValue("( "+e.text+" )"), valueOf(e.is))
		readAs(t, asValue("f ( 1 , "+e.text+" )"), valueOf(named(impl.NCall, "f", wholeLeaf(1), e.is)))
	}
}

// someStatements has every row of the table of statements.
func someStatements() []written {
	a, b, one := localLeaf("a"), localLeaf("b"), wholeLeaf(1)
	kill := grown(impl.NKill)
	return []written{
		{"let x = 1;", named(impl.NLet, "x", one)}, {"x = 1;", named(impl.NStore, "x", one)},
		{".x = 1;", named(impl.NSetComp, "x", one)}, {"$x = 1;", named(impl.NSetRes, "x", one)}, {"put x = 1;", named(impl.NPut, "x", one)},
		{"x = a + b;", named(impl.NStore, "x", opPlant(impl.OpAdd, a, b))}, {"let x = a < b;", named(impl.NLet, "x", opPlant(impl.OpLess, a, b))},
		{"if a { }", grown(impl.NIf, a, blockPlant())}, {"if a { kill; }", grown(impl.NIf, a, blockPlant(kill))},
		{"if a { } else { }", grown(impl.NIf, a, blockPlant(), blockPlant())}, {"if a { kill; } else { kill; kill; }", grown(impl.NIf, a, blockPlant(kill), blockPlant(kill, kill))},
		{"if a + b { }", grown(impl.NIf, opPlant(impl.OpAdd, a, b), blockPlant())}, {"if (a) { }", grown(impl.NIf, a, blockPlant())},
		{"if a { if b { } else { } }", grown(impl.NIf, a, blockPlant(grown(impl.NIf, b, blockPlant(), blockPlant())))},
		{"if a { if b { } } else { }", grown(impl.NIf, a, blockPlant(grown(impl.NIf, b, blockPlant())), blockPlant())},
		{"if a { } else { if b { } }", grown(impl.NIf, a, blockPlant(), blockPlant(grown(impl.NIf, b, blockPlant())))},
		{"loop 1 { }", grown(impl.NLoop, one, blockPlant())}, {"loop f(a) { kill; }", grown(impl.NLoop, named(impl.NCall, "f", a), blockPlant(kill))},
		{"each with A { }", eachPlant([]string{"A"}, nil)}, {"each with A, B, C { kill; }", eachPlant([]string{"A", "B", "C"}, nil, kill)},
		{"each with A without B { }", eachPlant([]string{"A"}, []string{"B"})}, {"each with A, B without C, D, E { kill; kill; }", eachPlant([]string{"A", "B"}, []string{"C", "D", "E"}, kill, kill)},
		{"emit Hit 1;", named(impl.NEmit, "Hit", one)}, {"emit Hit -1;", named(impl.NEmit, "Hit", turnPlant(impl.TurnNeg, one))},
		{"emit Hit (1);", named(impl.NEmit, "Hit", one)}, {"emit Hit (1)+a;", named(impl.NEmit, "Hit", opPlant(impl.OpAdd, one, a))}, {"emit Hit .x;", named(impl.NEmit, "Hit", leaf(impl.NComp, "x", 0))},
		{"hear Hit as h { }", named(impl.NHear, "Hit", leaf(impl.NName, "h", 0), blockPlant())}, {"hear Hit as h { kill; }", named(impl.NHear, "Hit", leaf(impl.NName, "h", 0), blockPlant(kill))},
		{"spawn();", grown(impl.NSpawn)}, {"spawn(A = 1);", grown(impl.NSpawn, named(impl.NCell, "A", one))},
		{"spawn(A = 1, B = a + b, A = (a));", grown(impl.NSpawn, named(impl.NCell, "A", one), named(impl.NCell, "B", opPlant(impl.OpAdd, a, b)), named(impl.NCell, "A", a))},
		{"kill;", kill}, {"drop Hp;", leaf(impl.NDrop, "Hp", 0)},
		{"do f();", grown(impl.NDo, named(impl.NCall, "f"))}, {"do f(a);", grown(impl.NDo, named(impl.NCall, "f", a))}, {"do f(a, g(b), 1);", grown(impl.NDo, named(impl.NCall, "f", a, named(impl.NCall, "g", b), one))},
		{"return 1;", grown(impl.NReturn, one)}, {"return (a);", grown(impl.NReturn, a)}, {"return not a;", grown(impl.NReturn, turnPlant(impl.TurnNot, a))},
	}
}

func TestParseStatements(t *testing.T) {
	list := someStatements()
	for i, s := range list {
		readAs(t, inSystem(s.text), systemPlant("s", s.is))
		readAs(t, "fn f(a int) int {"+s.text+"}", fnPlant("f", impl.KInt, blockPlant(s.is), leaf(impl.NParam, "a", impl.KInt)))
		other := list[(i*7+3)%len(list)]
		readAs(t, inSystem(s.text+other.text+s.text), systemPlant("s", s.is, other.is, s.is))
		readAs(t, inSystem("if a {"+s.text+"} else {"+other.text+"}"), systemPlant("s", grown(impl.NIf, localLeaf("a"), blockPlant(s.is), blockPlant(other.is))))
	}
}

func TestParseTops(t *testing.T) {
	kill := grown(impl.NKill)
	readAs(t, "system s { }", systemPlant("s"))
	readAs(t, "system abcdefghijkl{kill;kill;}", systemPlant("abcdefghijkl", kill, kill))
	for kind := impl.KInt; kind <= impl.KBool; kind++ {
		for other := impl.KInt; other <= impl.KBool; other++ {
			readAs(t, "fn f(a "+kindSigns[kind]+")"+kindSigns[other]+"{}", fnPlant("f", other, blockPlant(), leaf(impl.NParam, "a", kind)))
		}
		readAs(t, "fn f()"+kindSigns[kind]+"{kill;}", fnPlant("f", kind, blockPlant(kill)))
	}
	readAs(t, "fn f(a int, b pair, a bool) real { }", fnPlant("f", impl.KReal, blockPlant(), leaf(impl.NParam, "a", impl.KInt), leaf(impl.NParam, "b", impl.KPair), leaf(impl.NParam, "a", impl.KBool)))
	readAs(t, "system s{}system s{}fn s()int{}system t{}", systemPlant("s"), systemPlant("s"), fnPlant("s", impl.KInt, blockPlant()), systemPlant("t"))
}

// The numbers of nodes, written down one by one.
func TestNumbersOfNodes(t *testing.T) {
	for _, c := range []struct {
		text string
		want impl.Tree
	}{
		{"fn f(a int, b real) pair { return pair(b, 2.0); } system s { each with A, B without C { .A = f(1, $R); } hear E as e { } }", impl.Tree{
			Nodes: []impl.Node{
				{Kind: impl.NParam, Text: "a", I: impl.KInt}, {Kind: impl.NParam, Text: "b", I: impl.KReal},
				{Kind: impl.NLocal, Text: "b"}, {Kind: impl.NReal, Text: "2.0"}, {Kind: impl.NPair, Kids: []int{2, 3}}, {Kind: impl.NReturn, Kids: []int{4}},
				{Kind: impl.NBlock, Kids: []int{5}}, {Kind: impl.NFn, Text: "f", I: impl.KPair, Kids: []int{0, 1, 6}},
				{Kind: impl.NName, Text: "A"}, {Kind: impl.NName, Text: "B"}, {Kind: impl.NWith, Kids: []int{8, 9}}, {Kind: impl.NName, Text: "C"}, {Kind: impl.NWithout, Kids: []int{11}},
				{Kind: impl.NInt, I: 1}, {Kind: impl.NRes, Text: "R"}, {Kind: impl.NCall, Text: "f", Kids: []int{13, 14}}, {Kind: impl.NSetComp, Text: "A", Kids: []int{15}},
				{Kind: impl.NBlock, Kids: []int{16}}, {Kind: impl.NEach, Kids: []int{10, 12, 17}},
				{Kind: impl.NName, Text: "e"}, {Kind: impl.NBlock}, {Kind: impl.NHear, Text: "E", Kids: []int{19, 20}},
				{Kind: impl.NBlock, Kids: []int{18, 21}}, {Kind: impl.NSystem, Text: "s", Kids: []int{22}},
			}, Tops: []int{7, 23},
		}},
		{"system s { spawn(A = 1, B = -x); do f(yes); if pick(.A of A) == 2 { kill; } else { drop A; } each with A { } }", impl.Tree{
			Nodes: []impl.Node{
				{Kind: impl.NInt, I: 1}, {Kind: impl.NCell, Text: "A", Kids: []int{0}}, {Kind: impl.NLocal, Text: "x"}, {Kind: impl.NTurn, I: impl.TurnNeg, Kids: []int{2}}, {Kind: impl.NCell, Text: "B", Kids: []int{3}}, {Kind: impl.NSpawn, Kids: []int{1, 4}},
				{Kind: impl.NYesNo, I: 1}, {Kind: impl.NCall, Text: "f", Kids: []int{6}}, {Kind: impl.NDo, Kids: []int{7}},
				{Kind: impl.NComp, Text: "A"}, {Kind: impl.NName, Text: "A"}, {Kind: impl.NPick, Kids: []int{9, 10}}, {Kind: impl.NInt, I: 2}, {Kind: impl.NOp, I: impl.OpSame, Kids: []int{11, 12}},
				{Kind: impl.NKill}, {Kind: impl.NBlock, Kids: []int{14}}, {Kind: impl.NDrop, Text: "A"}, {Kind: impl.NBlock, Kids: []int{16}}, {Kind: impl.NIf, Kids: []int{13, 15, 17}},
				{Kind: impl.NName, Text: "A"}, {Kind: impl.NWith, Kids: []int{19}}, {Kind: impl.NWithout}, {Kind: impl.NBlock}, {Kind: impl.NEach, Kids: []int{20, 21, 22}},
				{Kind: impl.NBlock, Kids: []int{5, 8, 18, 23}}, {Kind: impl.NSystem, Text: "s", Kids: []int{24}},
			}, Tops: []int{25},
		}},
	} {
		if x, code, at := impl.Parse(c.text); code != impl.ParDone || at != 0 || !sameTree(x, c.want) {
			t.Errorf("%s: %v %d %d", c.text, x, code, at)
		}
		if !impl.TreeOk(c.want) {
			t.Errorf("%s: not right", c.text)
		}
	}
}

func TestPrintByHand(t *testing.T) {
	for _, c := range [][2]string{
		{"system s{}", "system s { }\n"},
		{"fn f()int{}", "fn f ( ) int { }\n"},
		{"fn f(a int)bool{return not a;}system s{}", "fn f ( a int ) bool { return ( not a ) ; }\nsystem s { }\n"},
		{"fn f(a real,b pair,c bool)pair{kill;}", "fn f ( a real , b pair , c bool ) pair { kill ; }\n"},
		{asValue("a+b*c"), "system s { x = ( a + ( b * c ) ) ; }\n"},
		{asValue("(a)"), "system s { x = a ; }\n"},
		{asValue("--a"), "system s { x = ( - ( - a ) ) ; }\n"},
		{asValue("not-not a"), "system s { x = ( not ( - ( not a ) ) ) ; }\n"},
		{asValue("re(-a)"), "system s { x = re ( ( - a ) ) ; }\n"},
		{asValue("im((a))+real(1)*size(b)"), "system s { x = ( im ( a ) + ( real ( 1 ) * size ( b ) ) ) ; }\n"},
		{asValue("f(a-b,.Hp,$R)/f()"), "system s { x = ( f ( ( a - b ) , . Hp , $ R ) / f ( ) ) ; }\n"},
		{asValue("pair(yes or no,1.50)"), "system s { x = pair ( ( yes or no ) , 1.50 ) ; }\n"},
		{asValue("pick(1%2 of A,B)"), "system s { x = pick ( ( 1 % 2 ) of A , B ) ; }\n"},
		{asValue("a<b and c==0"), "system s { x = ( ( a < b ) and ( c == 0 ) ) ; }\n"},
		{inSystem("let a=1;.b=2;$c=3;put d=4;drop e;emit f 5;"), "system s { let a = 1 ; . b = 2 ; $ c = 3 ; put d = 4 ; drop e ; emit f 5 ; }\n"},
		{inSystem("if a{}if b{}else{kill;}loop 3{do f();}"), "system s { if a { } if b { } else { kill ; } loop 3 { do f ( ) ; } }\n"},
		{inSystem("each with A{}each with A,B without C,D{kill;}"), "system s { each with A { } each with A , B without C , D { kill ; } }\n"},
		{inSystem("hear E as e{spawn();spawn(A=1,B=-2);}do f(1,a or b);return 7;"), "system s { hear E as e { spawn ( ) ; spawn ( A = 1 , B = ( - 2 ) ) ; } do f ( 1 , ( a or b ) ) ; return 7 ; }\n"},
		{asValue("999999999999999"), "system s { x = 999999999999999 ; }\n"},
	} {
		x, code, at := impl.Parse(c[0])
		s, ok := impl.Print(x)
		if code != impl.ParDone || !ok || s != c[1] {
			t.Errorf("%s: %d %d %v, printed %q, not %q", c[0], code, at, ok, s, c[1])
		}
		printedBack(t, x)
	}
}

func TestEveryOperatorBesideEveryOther(t *testing.T) {
	a, b, c := localLeaf("a"), localLeaf("b"), localLeaf("c")
	for op := impl.OpAdd; op <= impl.OpOr; op++ {
		for other := impl.OpAdd; other <= impl.OpOr; other++ {
			left, right := opPlant(other, opPlant(op, a, b), c), opPlant(op, a, opPlant(other, b, c))
			p, q := opSigns[op], opSigns[other]
			readAs(t, asValue("(a "+p+" b) "+q+" c"), valueOf(left))
			readAs(t, asValue("a "+p+" (b "+q+" c)"), valueOf(right))
			text := asValue("a " + p + " b " + q + " c")
			switch {
			case compares(op) && compares(other):
				readRefused(t, text, impl.ParWant, len("system s { x = a "+p+" b "))
			case opBinds[other] > opBinds[op]:
				readAs(t, text, valueOf(right))
			default:
				readAs(t, text, valueOf(left))
			}
		}
	}
}

func TestSignsBesideOperators(t *testing.T) {
	a, b := localLeaf("a"), localLeaf("b")
	for _, sign := range []int{impl.TurnNeg, impl.TurnNot} {
		s := turnSigns[sign] + " "
		for op := impl.OpAdd; op <= impl.OpOr; op++ {
			p := " " + opSigns[op] + " "
			readAs(t, asValue(s+"a"+p+"b"), valueOf(opPlant(op, turnPlant(sign, a), b)))
			readAs(t, asValue("a"+p+s+"b"), valueOf(opPlant(op, a, turnPlant(sign, b))))
			readAs(t, asValue(s+"a"+p+s+"b"), valueOf(opPlant(op, turnPlant(sign, a), turnPlant(sign, b))))
			readAs(t, asValue(s+"(a"+p+"b)"), valueOf(turnPlant(sign, opPlant(op, a, b))))
			readAs(t, asValue(s+"(a)"+p+"b"), valueOf(opPlant(op, turnPlant(sign, a), b)))
			for _, next := range []int{impl.TurnNeg, impl.TurnNot} {
				n := turnSigns[next] + " "
				readAs(t, asValue(s+n+"a"+p+n+s+s+"b"), valueOf(opPlant(op, turnPlant(sign, turnPlant(next, a)), turnPlant(next, turnPlant(sign, turnPlant(sign, b))))))
			}
		}
	}
	readAs(t, asValue("1--2"), valueOf(opPlant(impl.OpSub, wholeLeaf(1), turnPlant(impl.TurnNeg, wholeLeaf(2)))))
	readAs(t, asValue("-1-2"), valueOf(opPlant(impl.OpSub, turnPlant(impl.TurnNeg, wholeLeaf(1)), wholeLeaf(2))))
}

// Operators of one level go from the left.
func TestChains(t *testing.T) {
	levels := [][]int{{impl.OpOr}, {impl.OpAnd}, {impl.OpAdd, impl.OpSub}, {impl.OpMul, impl.OpDiv, impl.OpMod}}
	d := dice(8)
	for _, ops := range levels {
		for n := 3; n < 30; n++ {
			text, p := "a", localLeaf("a")
			for range n {
				op := ops[d.roll(len(ops))]
				text += " " + opSigns[op] + " b"
				p = opPlant(op, p, localLeaf("b"))
			}
			readAs(t, asValue(text), valueOf(p))
		}
	}
	cut := func(op int) *plant { return opPlant(op, localLeaf("a"), localLeaf("b")) }
	readAs(t, asValue("a<b and a==b and a<b or a<b"), valueOf(opPlant(impl.OpOr,
		opPlant(impl.OpAnd, opPlant(impl.OpAnd, cut(impl.OpLess), cut(impl.OpSame)), cut(impl.OpLess)), cut(impl.OpLess))))
	readAs(t, asValue("a or b and a<b+b*a"), valueOf(opPlant(impl.OpOr, localLeaf("a"), opPlant(impl.OpAnd, localLeaf("b"),
		opPlant(impl.OpLess, localLeaf("a"), opPlant(impl.OpAdd, localLeaf("b"), opPlant(impl.OpMul, localLeaf("b"), localLeaf("a"))))))))
	readAs(t, asValue("a*b+b<a and b or a"), valueOf(opPlant(impl.OpOr, opPlant(impl.OpAnd,
		opPlant(impl.OpLess, opPlant(impl.OpAdd, cut(impl.OpMul), localLeaf("b")), localLeaf("a")), localLeaf("b")), localLeaf("a"))))
}

// One of `<` and `==` stands between two operands at most, outside of
// parentheses.
func TestComparedTwice(t *testing.T) {
	a, b, c := localLeaf("a"), localLeaf("b"), localLeaf("c")
	for _, op := range []int{impl.OpLess, impl.OpSame} {
		for _, other := range []int{impl.OpLess, impl.OpSame} {
			p, q := opSigns[op], opSigns[other]
			for _, ahead := range []string{"a " + p + " b ", "a + 1 " + p + " b * 2 ", "- a " + p + " not b ", "c and a " + p + " b ", "c or a " + p + " b ", "c < 1 or a " + p + " b + b ", "( a " + p + " b ) " + p + " c "} {
				text := "system s { x = " + ahead
				readRefused(t, text+q+" c ; }", impl.ParWant, len(text))
				readRefused(t, text+"- 1 + c "+q+" c ; }", impl.ParWant, len(text+"- 1 + c "))
				readRefused(t, text+q, impl.ParWant, len(text))
				if _, code, at := impl.Parse(text + "and c " + q + " c ; }"); code != impl.ParDone || at != 0 {
					t.Errorf("%sand c %s c: %d %d", text, q, code, at)
				}
			}
			readAs(t, asValue("(a "+p+" b) "+q+" c"), valueOf(opPlant(other, opPlant(op, a, b), c)))
			readAs(t, asValue("a "+p+" (b "+q+" c)"), valueOf(opPlant(op, a, opPlant(other, b, c))))
			readAs(t, asValue("(a "+p+" b) "+q+" (b "+p+" c)"), valueOf(opPlant(other, opPlant(op, a, b), opPlant(op, b, c))))
			readAs(t, asValue("a "+p+" f(b "+q+" c)"), valueOf(opPlant(op, a, named(impl.NCall, "f", opPlant(other, b, c)))))
			readAs(t, asValue("a "+p+" b or b "+q+" c"), valueOf(opPlant(impl.OpOr, opPlant(op, a, b), opPlant(other, b, c))))
		}
	}
}

// Plants by chance, written without needless parentheses, with some, and with
// those that are printed; printed, and read again.
func TestAnyTrees(t *testing.T) {
	g := &gardener{dice(88)}
	read := 0
	for range 3000 {
		tops := g.tops(1+g.roll(5), 3)
		x := treeOf(tops...)
		text := pen{all: true}.textOf(tops...)
		if s, ok := impl.Print(x); !ok || s != text || !impl.TreeOk(x) {
			t.Fatalf("Print tells %.300q %v, not %.300q", s, ok, text)
		}
		if len(text) > impl.MaxText {
			readRefused(t, text, impl.ParLex, 0)
			continue
		}
		read++
		readAs(t, text, tops...)
		readAs(t, pen{}.textOf(tops...), tops...)
		if some := (pen{extra: &g.dice}).textOf(tops...); len(some) <= impl.MaxText {
			readAs(t, some, tops...)
		}
	}
	if read < 1500 {
		t.Error("only", read, "trees were read")
	}
}

// What is printed of a deep tree is read again just as long as its nesting is
// no more than MaxDepth.
func TestPrintedAndTooDeep(t *testing.T) {
	g := &gardener{dice(808)}
	counts := map[int]int{}
	for range 4000 {
		e := g.leaf()
		for range 10 + g.roll(30) {
			switch g.roll(6) {
			case 0:
				e = turnPlant(1+g.roll(6), e)
			case 1:
				e = opPlant(1+g.roll(9), g.leaf(), e)
			case 2:
				e = opPlant(1+g.roll(9), e, g.leaf())
			case 3:
				e = named(impl.NCall, "f", g.leaf(), e)
			case 4:
				e = grown(impl.NPair, e, g.leaf())
			case 5:
				e = pickPlant(e, "A")
			}
		}
		top := systemPlant("s", grown(impl.NIf, g.leaf(), blockPlant(named(impl.NLet, "x", e))))
		x := treeOf(top)
		deep := nested(top, 0)
		text, ok := impl.Print(x)
		if !ok || text != (pen{all: true}).textOf(top) {
			t.Fatalf("%v is printed as %q", x, text)
		}
		y, code, _ := impl.Parse(text)
		counts[deep]++
		if deep <= impl.MaxDepth && (code != impl.ParDone || !sameTree(x, y)) || deep > impl.MaxDepth && code != impl.ParDeep {
			t.Fatalf("nesting %d, code %d: %s", deep, code, text)
		}
	}
	if counts[impl.MaxDepth] < 20 || counts[impl.MaxDepth+1] < 20 {
		t.Error("too few at the limit:", counts)
	}
}

// Remarks and blanks change nothing but places.
func TestRemarksChangeNothing(t *testing.T) {
	g := &gardener{dice(888)}
	remarks := []string{"#\n", "# x = ; } else\n", "\n", " \t\n", "# é \xff !\n\n", "##\n #\n"}
	for range 150 {
		tops := g.tops(3, 2)
		words := strings.Fields(pen{}.textOf(tops...))
		if len(words) > 150 {
			continue
		}
		for _, remark := range remarks {
			for at := range len(words) + 1 {
				around := slices.Insert(slices.Clone(words), at, remark)
				if text := strings.Join(around, " "); len(text) <= impl.MaxText && (at%7 == 0 || at == len(words) || g.roll(5) == 0) {
					readAs(t, text, tops...)
				}
			}
			if text := remark + strings.Join(words, remark) + remark; len(text) <= impl.MaxText {
				readAs(t, text, tops...)
			}
		}
		readAs(t, strings.Join(words, " ")+"# the end", tops...)
	}
}

// Remarks change the places of faults, too, and nothing else of them.
func TestRemarksAndFaults(t *testing.T) {
	readRefused(t, "# a remark\nsystem s { x = ; }", impl.ParWant, 26)
	readRefused(t, "system s { x = # a remark\n; }", impl.ParWant, 26)
	readRefused(t, "system s { x = ; } # a remark", impl.ParWant, 15)
	readRefused(t, "system s { # a remark", impl.ParWant, 21)
	readRefused(t, "system s {\n\n", impl.ParWant, 12)
	readRefused(t, "# a remark\nsystem s { ? }", impl.ParLex, 22)
	readRefused(t, "#\n x", impl.ParWant, 3)
}

// A text behind another one has its nodes and tops behind the other ones.
func TestTextsBehindOneAnother(t *testing.T) {
	g := &gardener{dice(8888)}
	for range 400 {
		a, b := g.tops(3, 2), g.tops(3, 2)
		first, second := pen{}.textOf(a...), pen{}.textOf(b...)
		if len(first)+len(second) > impl.MaxText {
			continue
		}
		readAs(t, first+second, slices.Concat(a, b)...)
		readAs(t, second+first, slices.Concat(b, a)...)
		x, _, _ := impl.Parse(first)
		y, _, _ := impl.Parse(second)
		s, _ := impl.Print(x)
		q, _ := impl.Print(y)
		z, _, _ := impl.Parse(first + second)
		if both, ok := impl.Print(z); !ok || both != s+q {
			t.Fatalf("%q behind %q is printed as %q", q, s, both)
		}
		n := len(x.Nodes)
		for i, k := range y.Nodes {
			k.Kids = slices.Clone(k.Kids)
			for at := range k.Kids {
				k.Kids[at] += n
			}
			if o := z.Nodes[n+i]; o.Kind != k.Kind || !slices.Equal(o.Kids, k.Kids) {
				t.Fatalf("node %d behind %d others: %v, not %v", i, n, o, k)
			}
		}
	}
}

// The longest texts, and those with the most nodes.
func TestParseLongTexts(t *testing.T) {
	ones := "1" + strings.Repeat("+1", (impl.MaxText-len(asValue("1")))/2)
	sum := wholeLeaf(1)
	for range strings.Count(ones, "+") {
		sum = opPlant(impl.OpAdd, sum, wholeLeaf(1))
	}
	text := asValue(ones)
	text += strings.Repeat(" ", impl.MaxText-len(text))
	x, code, at := impl.Parse(text)
	if code != impl.ParDone || at != 0 || !sameTree(x, treeOf(valueOf(sum))) || !impl.TreeOk(x) {
		t.Error("a sum of", len(x.Nodes), "nodes:", code, at)
	}
	if s, ok := impl.Print(x); !ok || len(s) <= impl.MaxText {
		t.Error("a sum is printed with", len(s), "bytes")
	} else {
		readRefused(t, s, impl.ParLex, 0)
	}
	readRefused(t, text+" ", impl.ParLex, 0)
	readRefused(t, strings.Repeat("x", impl.MaxText+1), impl.ParLex, 0)

	kills := "system s{" + strings.Repeat("kill;", (impl.MaxText-10)/5) + "}"
	block := blockPlant()
	for range strings.Count(kills, "kill") {
		block.kids = append(block.kids, grown(impl.NKill))
	}
	if x, code, at := impl.Parse(kills); code != impl.ParDone || at != 0 || !sameTree(x, treeOf(named(impl.NSystem, "s", block))) {
		t.Error("kills", code, at)
	}
	if x, code, _ := impl.Parse(strings.Repeat("fn f()int{}", 300)); code != impl.ParDone || len(x.Tops) != 300 || len(x.Nodes) != 600 || !impl.TreeOk(x) {
		t.Error("functions", code, len(x.Tops))
	}
}

// What is printed is read again up to MaxText bytes just.
func TestPrintedUpToMaxText(t *testing.T) {
	kills := (impl.MaxText - 20) / len("kill ; ")
	for n := 1; n <= impl.MaxName; n++ {
		top := systemPlant(strings.Repeat("s", n), slices.Repeat([]*plant{grown(impl.NKill)}, kills)...)
		x := treeOf(top)
		text, ok := impl.Print(x)
		if size := len("system  { }\n") + n + kills*len("kill ; "); !ok || len(text) != size {
			t.Fatal("printed with", len(text), "bytes, not", size)
		}
		if len(text) > impl.MaxText {
			readRefused(t, text, impl.ParLex, 0)
		} else {
			readAs(t, text, top)
		}
	}
	for _, more := range []string{"", " ", "  "} {
		text := "system s { } #" + strings.Repeat(".", impl.MaxText-15) + more
		if len(text) > impl.MaxText {
			readRefused(t, text, impl.ParLex, 0)
		} else {
			readAs(t, text, systemPlant("s"))
		}
	}
}
