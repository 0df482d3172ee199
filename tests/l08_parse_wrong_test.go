package tests

import (
	"slices"
	"strings"
	"testing"

	"loop.example/g00070/impl"
)

// grammar is the tables of the chapter, row by row, without what limits the
// nesting. What stands in angles has rows of its own.
const grammar = `
<text>
<text> <text> <top>
<top> fn NAME ( ) <kind> <block>
<top> fn NAME ( <params> ) <kind> <block>
<top> system NAME <block>
<params> NAME <kind>
<params> <params> , NAME <kind>
<kind> int
<kind> real
<kind> pair
<kind> bool
<block> { <some> }
<some>
<some> <some> <statement>
<statement> let NAME = <e> ;
<statement> NAME = <e> ;
<statement> . NAME = <e> ;
<statement> $ NAME = <e> ;
<statement> if <e> <block>
<statement> if <e> <block> else <block>
<statement> loop <e> <block>
<statement> each with <names> <block>
<statement> each with <names> without <names> <block>
<statement> emit NAME <e> ;
<statement> hear NAME as NAME <block>
<statement> spawn ( ) ;
<statement> spawn ( <cells> ) ;
<statement> kill ;
<statement> put NAME = <e> ;
<statement> drop NAME ;
<statement> do <call> ;
<statement> return <e> ;
<names> NAME
<names> <names> , NAME
<cells> NAME = <e>
<cells> <cells> , NAME = <e>
<call> NAME ( )
<call> NAME ( <es> )
<es> <e>
<es> <es> , <e>
<e> <both>
<e> <e> or <both>
<both> <held>
<both> <both> and <held>
<held> <sum>
<held> <sum> < <sum>
<held> <sum> == <sum>
<sum> <product>
<sum> <sum> + <product>
<sum> <sum> - <product>
<product> <sign>
<product> <product> * <sign>
<product> <product> / <sign>
<product> <product> % <sign>
<sign> - <sign>
<sign> not <sign>
<sign> INT
<sign> REAL
<sign> yes
<sign> no
<sign> NAME
<sign> . NAME
<sign> $ NAME
<sign> <call>
<sign> ( <e> )
<sign> re ( <e> )
<sign> im ( <e> )
<sign> real ( <e> )
<sign> size ( <e> )
<sign> pair ( <e> , <e> )
<sign> pick ( <e> of <names> )
`

// grammarRow says that its head can be its parts.
type grammarRow struct {
	head  string
	parts []string
}

// spotIn is how far some row has come, and behind how many tokens it began.
type spotIn struct {
	row   int
	done  int
	began int
}

// judge tells of tokens, one by one, whether a text can begin so: by each
// row that can be under way (after Earley), so quite unlike a reader that
// goes from the top down.
type judge struct {
	rows    []grammarRow
	byHead  map[string][]int
	columns [][]spotIn
	seen    map[spotIn]bool
}

func newJudge() *judge {
	j := &judge{byHead: map[string][]int{}}
	for _, line := range strings.Split(strings.Trim(grammar, "\n"), "\n") {
		words := strings.Fields(line)
		j.byHead[words[0]] = append(j.byHead[words[0]], len(j.rows))
		j.rows = append(j.rows, grammarRow{words[0], words[1:]})
	}
	j.begin(nil)
	for _, row := range j.byHead["<text>"] {
		j.add(spotIn{row, 0, 0})
	}
	j.close()
	return j
}

func (j *judge) begin(column []spotIn) {
	j.columns = append(j.columns, column)
	j.seen = map[spotIn]bool{}
}

func (j *judge) add(s spotIn) {
	if last := len(j.columns) - 1; !j.seen[s] {
		j.seen[s] = true
		j.columns[last] = append(j.columns[last], s)
	}
}

// wants is the next part of the row, or nothing at its end.
func (j *judge) wants(s spotIn) string {
	if parts := j.rows[s.row].parts; s.done < len(parts) {
		return parts[s.done]
	}
	return ""
}

func (j *judge) canBeEmpty(head string) bool { return head == "<text>" || head == "<some>" }

func (j *judge) close() {
	last := len(j.columns) - 1
	for at := 0; at < len(j.columns[last]); at++ {
		s := j.columns[last][at]
		wanted := j.wants(s)
		if wanted == "" {
			for _, o := range j.columns[s.began] {
				if j.wants(o) == j.rows[s.row].head {
					j.add(spotIn{o.row, o.done + 1, o.began})
				}
			}
			continue
		}
		for _, row := range j.byHead[wanted] {
			j.add(spotIn{row, 0, last})
		}
		if j.canBeEmpty(wanted) {
			j.add(spotIn{s.row, s.done + 1, s.began})
		}
	}
}

// hear answers whether a text can go on with that token.
func (j *judge) hear(token string) bool {
	ahead := j.columns[len(j.columns)-1]
	j.begin(nil)
	for _, s := range ahead {
		if j.wants(s) == token {
			j.add(spotIn{s.row, s.done + 1, s.began})
		}
	}
	j.close()
	return len(j.columns[len(j.columns)-1]) > 0
}

// whole answers whether a text can end here.
func (j *judge) whole() bool {
	for _, s := range j.columns[len(j.columns)-1] {
		if j.rows[s.row].head == "<text>" && j.wants(s) == "" && s.began == 0 {
			return true
		}
	}
	return false
}

func (j *judge) forget(behind int) { j.columns = j.columns[:behind+1] }

// classOf is how the grammar calls a token.
func classOf(token string) string {
	switch c := token[0]; {
	case c >= '0' && c <= '9' && strings.Contains(token, "."):
		return "REAL"
	case c >= '0' && c <= '9':
		return "INT"
	case strings.IndexByte(letters, c) >= 0 && !slices.Contains(allWords, token):
		return "NAME"
	}
	return token
}

// verdict hears the rest of a text behind so many tokens of it: the number of
// the first token that can't stand there, how many there are when the text
// ends too early, -1 when it is right.
func (j *judge) verdict(tokens []string, from int) int {
	j.forget(from)
	defer j.forget(from)
	for i, token := range tokens[from:] {
		if !j.hear(classOf(token)) {
			return from + i
		}
	}
	if !j.whole() {
		return len(tokens)
	}
	return -1
}

// judged holds Parse against the judge, who has heard the tokens up to from.
func (j *judge) judged(t *testing.T, tokens []string, from int) bool {
	t.Helper()
	text := strings.Join(tokens, " ")
	wrong := j.verdict(tokens, from)
	if wrong < 0 {
		x, code, at := impl.Parse(text)
		if code != impl.ParDone || at != 0 || !impl.TreeOk(x) {
			t.Errorf("%s: %d %d, and it is right", text, code, at)
		}
		return true
	}
	at := len(text)
	if wrong < len(tokens) {
		at = len(strings.Join(append(slices.Clone(tokens[:wrong]), ""), " "))
	}
	readRefused(t, text, impl.ParWant, at)
	return false
}

// judgedTexts has every row of the tables.
func judgedTexts() []string {
	return []string{
		"fn f ( a int , b pair ) real { return re ( b ) - 1.5 ; }",
		"fn f ( ) bool { } system s { }",
		"system s { each with A , B without C , D { . A = f ( 1 , $ R ) ; kill ; } hear E as h { } }",
		"system s { spawn ( A = 1 , B = - x ) ; spawn ( ) ; do f ( ) ; do f ( x , yes ) ; drop A ; put A = no ; }",
		"system s { if a < b and c == d { } else { kill ; } loop 3 { x = 1 ; } if x { } }",
		"system s { let x = pick ( 1 of A , B ) ; $ x = pair ( 1 , im ( y ) ) ; emit E size ( z ) ; each with A { } }",
		"system s { x = not - a * ( b + c ) % real ( 2 ) / f ( ) or . A == 2 ; }",
	}
}

// Each text with one token left out, doubled, replaced by or put behind each
// other one, or cut off.
func TestOneTokenWrong(t *testing.T) {
	rights, wrongs := 0, 0
	for _, text := range judgedTexts() {
		tokens := strings.Fields(text)
		j := newJudge()
		if !j.judged(t, tokens, 0) {
			t.Error("not right:", text)
		}
		for i, token := range tokens {
			variants := [][]string{tokens[:i], slices.Delete(slices.Clone(tokens), i, i+1), slices.Insert(slices.Clone(tokens), i, token)}
			for _, other := range everyToken() {
				variants = append(variants, slices.Replace(slices.Clone(tokens), i, i+1, other), slices.Insert(slices.Clone(tokens), i, other))
			}
			for _, v := range variants {
				if j.judged(t, v, i) {
					rights++
				} else {
					wrongs++
				}
			}
			j.hear(classOf(token))
		}
		for _, other := range everyToken() {
			j.judged(t, append(slices.Clone(tokens), other), len(tokens))
		}
	}
	if rights < 300 || wrongs < 3000 {
		t.Error("right", rights, "wrong", wrongs)
	}
}

// Tokens by chance, and texts by chance with some tokens changed.
func TestAnyTokens(t *testing.T) {
	d := dice(48)
	g := &gardener{dice(480)}
	j := newJudge()
	for range 3000 {
		tokens := []string{"system", "s", "{", "x", "="}
		for range d.roll(20) {
			tokens = append(tokens, everyToken()[d.roll(len(everyToken()))])
		}
		j.judged(t, tokens, 0)
		j.judged(t, tokens[5:], 0)
	}
	for range 500 {
		tokens := strings.Fields(pen{extra: &g.dice}.textOf(g.tops(3, 2)...))
		for range d.roll(3) {
			if len(tokens) == 0 {
				break
			}
			switch at := d.roll(len(tokens)); d.roll(3) {
			case 0:
				tokens = slices.Delete(tokens, at, at+1)
			case 1:
				tokens[at] = everyToken()[d.roll(len(everyToken()))]
			case 2:
				tokens[at], tokens[d.roll(len(tokens))] = tokens[d.roll(len(tokens))], tokens[at]
			}
		}
		if len(tokens) < 200 {
			j.judged(t, tokens, 0)
		}
	}
}

func TestRefusedByHand(t *testing.T) {
	for _, c := range []struct {
		text string
		at   int
	}{
		{"x", 0}, {";", 0}, {"}", 0}, {"{ }", 0}, {"let x = 1;", 0}, {"7", 0},
		{"system", 6}, {"system ", 7}, {"system s", 8}, {"system s {", 10}, {"system s { kill", 15}, {"system s { kill ;", 17},
		{"system s { } }", 13}, {"system s { } x", 13}, {"system s { };", 12}, {"system s s { }", 9}, {"system ( s { }", 7},
		{"system let { }", 7}, {"system 7 { }", 7}, {"system re { }", 7}, {"system { }", 7}, {"System s { }", 0}, {"systems s { }", 0},
		{"fn f { }", 5}, {"fn f ( ) { }", 9}, {"fn f ( ) x { }", 9}, {"fn f ( ) yes { }", 9}, {"fn f ( int ) int { }", 7}, {"fn f ( a ) int { }", 9}, {"fn f ( a int b int ) int { }", 13},
		{"fn f ( a int , ) int { }", 15}, {"fn f ( , ) int { }", 7}, {"fn f ( a x ) int { }", 9}, {"fn f ( a int ) int ; ", 19}, {"fn f ( a int int { }", 13}, {"fn int ( ) int { }", 3},
		{inSystem("x ;"), 13}, {inSystem("x == 1 ;"), 13}, {inSystem("f ( ) ;"), 13}, {inSystem("1 = x ;"), 11}, {inSystem("x = ;"), 15}, {inSystem("x = 1"), 17}, {inSystem("x = 1 , 2 ;"), 17},
		{inSystem("let = 1 ;"), 15}, {inSystem("let let = 1 ;"), 15}, {inSystem("let x 1 ;"), 17}, {inSystem(". 1 = 1 ;"), 13}, {inSystem("$ if = 1 ;"), 13},
		{inSystem("if { }"), 14}, {inSystem("if x ;"), 16}, {inSystem("if x kill ;"), 16}, {inSystem("if x { } else ;"), 25}, {inSystem("if x { } else if y { }"), 25}, {inSystem("else { }"), 11}, {inSystem("if x { } else { } else { }"), 29},
		{inSystem("loop { }"), 16}, {inSystem("loop 3 ;"), 18}, {inSystem("each { }"), 16}, {inSystem("each with { }"), 21}, {inSystem("each with A , { }"), 25}, {inSystem("each with A B { }"), 23},
		{inSystem("each with A without { }"), 31}, {inSystem("each without A { }"), 16}, {inSystem("each with A without B without C { }"), 33}, {inSystem("each with A with B { }"), 23}, {inSystem("each with if { }"), 21}, {inSystem("each with A , B ;"), 27},
		{inSystem("emit E ;"), 18}, {inSystem("emit ;"), 16}, {inSystem("emit 1 ;"), 16}, {inSystem("hear E { }"), 18}, {inSystem("hear E as { }"), 21}, {inSystem("hear as h { }"), 16}, {inSystem("hear E as h ;"), 23},
		{inSystem("spawn ;"), 17}, {inSystem("spawn ( A ) ;"), 21}, {inSystem("spawn ( 1 ) ;"), 19}, {inSystem("spawn ( A = ) ;"), 23}, {inSystem("spawn ( A = 1 , ) ;"), 27}, {inSystem("spawn ( A = 1 B = 2 ) ;"), 25}, {inSystem("spawn ( A == 1 ) ;"), 21}, {inSystem("spawn ( ) }"), 21},
		{inSystem("kill"), 16}, {inSystem("kill x ;"), 16}, {inSystem("drop ;"), 16}, {inSystem("drop A = 1 ;"), 18}, {inSystem("put A ;"), 17}, {inSystem("put A = ;"), 19},
		{inSystem("do f ;"), 16}, {inSystem("do ( ) ;"), 14}, {inSystem("do f ( ) + 1 ;"), 20}, {inSystem("do re ( x ) ;"), 14}, {inSystem("do f ( , ) ;"), 18}, {inSystem("do f ( 1 , ) ;"), 22}, {inSystem("return ;"), 18}, {inSystem("return 1 }"), 20},
		{inSystem("fn f ( ) int { }"), 11}, {inSystem("system t { }"), 11}, {inSystem("{ }"), 11}, {inSystem("; "), 11}, {inSystem("kill ; ;"), 18},
		{asValue("( )"), 17}, {asValue("( 1"), 19}, {asValue("1 )"), 17}, {asValue("( 1 , 2 )"), 19}, {asValue("1 2"), 17}, {asValue("a b"), 17}, {asValue("+ 1"), 15}, {asValue("1 +"), 19}, {asValue("1 + * 2"), 19}, {asValue("1 not 2"), 17}, {asValue("- ")[:17], 17},
		{asValue("a = b"), 17}, {asValue("a < = b"), 19}, {asValue("a and or b"), 21}, {asValue("f ( 1 2 )"), 21}, {asValue("f ( 1 , , 2 )"), 23}, {asValue("f ( of )"), 19}, {asValue("7 ( )"), 17}, {asValue("yes ( )"), 19}, {asValue(". A ( )"), 19},
		{asValue("re x"), 18}, {asValue("re ( )"), 20}, {asValue("re ( a , b )"), 22}, {asValue("pair ( a )"), 24}, {asValue("pair ( a , b , c )"), 28}, {asValue("pair ( )"), 22}, {asValue("pair a"), 20}, {asValue("size"), 20}, {asValue("real 1.5"), 20}, {asValue("int ( 1 )"), 15}, {asValue("bool"), 15},
		{asValue("pick ( 1 )"), 24}, {asValue("pick ( 1 of )"), 27}, {asValue("pick ( of A )"), 22}, {asValue("pick ( 1 of 2 )"), 27}, {asValue("pick ( 1 of A B )"), 29}, {asValue("pick ( 1 of A , )"), 31}, {asValue("pick ( 1 , A )"), 24}, {asValue("pick ( 1 of . A )"), 27},
		{asValue(". . A"), 17}, {asValue("$ 1"), 17}, {asValue(". if"), 17}, {asValue("let"), 15}, {asValue("a . b"), 17}, {asValue("1 . 2"), 17},
	} {
		readRefused(t, c.text, impl.ParWant, c.at)
	}
}

// A word is no NAME, wherever one is wanted, and a NAME is no word.
func TestWordsAndNames(t *testing.T) {
	wants := []string{
		"system @ { }", "fn @ ( ) int { }", "fn f ( @ int ) int { }", inSystem("let @ = 1 ;"), inSystem(". @ = 1 ;"), inSystem("$ @ = 1 ;"), inSystem("put @ = 1 ;"), inSystem("drop @ ;"),
		inSystem("emit @ 1 ;"), inSystem("hear @ as h { }"), inSystem("hear E as @ { }"), inSystem("each with @ { }"), inSystem("each with A , @ { }"), inSystem("each with A without @ { }"),
		inSystem("spawn ( @ = 1 ) ;"), inSystem("do @ ( ) ;"), asValue(". @"), asValue("$ @"), asValue("pick ( 1 of @ )"), asValue("pick ( 1 of A , @ )"),
	}
	for _, text := range wants {
		at := strings.Index(text, "@")
		for _, word := range slices.Concat(allWords, []string{"7", "1.5", "{", "=="}) {
			if word == "int" && strings.HasPrefix(text, "fn f ( @ int") {
				continue
			}
			readRefused(t, strings.Replace(text, "@", word, 1), impl.ParWant, at)
		}
		for _, name := range []string{"x", "abcdefghijkl", "If", "lets", "asa"} {
			readable(t, strings.Replace(text, "@", name, 1))
		}
	}
	for _, text := range []string{"system s { }", "fn f ( a int ) int { }", inSystem("if x { } else { }"), inSystem("loop x { }"), inSystem("each with A without B { }"), inSystem("hear E as h { }"), inSystem("kill ;"), inSystem("spawn ( ) ;"), asValue("x or y"), asValue("x and y"), asValue("pick ( 1 of A )"), asValue("pair ( a , b )")} {
		tokens := strings.Fields(text)
		j := newJudge()
		for i, token := range tokens {
			if slices.Contains(allWords, token) {
				j.judged(t, slices.Replace(slices.Clone(tokens), i, i+1, "x"), i)
			}
			j.hear(classOf(token))
		}
	}
}

// Where Lex refuses a text, its place is told, whatever else is wrong.
func TestParseWhatLexRefuses(t *testing.T) {
	for _, text := range []string{"?", "system s { ? }", "x ?", "} } ?", "system s { x = 01 ; }", "system s { x = 1a ; }", "system abcdefghijklm { }", "system s { x = 1.1234567 ; }", "é", "system s {\x00}", "system s { x = 1000000000000000 ; }", "( ( 1.5x", strings.Repeat("( ", 100) + "!"} {
		_, lexCode, at := impl.Lex(text)
		if lexCode == impl.LexDone {
			t.Fatal("Lex takes", text)
		}
		readRefused(t, text, impl.ParLex, at)
	}
	readRefused(t, strings.Repeat("?", impl.MaxText+1), impl.ParLex, 0)
	readAs(t, asValue("999999999999999"), valueOf(wholeLeaf(999999999999999)))
	readRefused(t, asValue("1000000000000000"), impl.ParLex, 15)
}

func TestParseAnyBytes(t *testing.T) {
	d := dice(84)
	for range 20000 {
		b := make([]byte, d.roll(30))
		for i := range b {
			b[i] = byte(d.roll(256))
		}
		text := string(b)
		x, code, at := impl.Parse(text)
		_, lexCode, lexAt := impl.Lex(text)
		switch {
		case lexCode != impl.LexDone:
			readRefused(t, text, impl.ParLex, lexAt)
		case code == impl.ParDone && !impl.TreeOk(x), code == impl.ParLex, code == impl.ParDone && at != 0:
			t.Errorf("%q: %v %d %d", text, x, code, at)
		}
	}
}
