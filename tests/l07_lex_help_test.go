package tests

import (
	"regexp"
	"slices"
	"strconv"
	"strings"
	"testing"

	"loop.example/g00070/impl"
)

var allMarks = []string{"{", "}", "(", ")", ";", ",", ".", "$", "==", "=", "+", "-", "*", "/", "%", "<"}

var allBlanks = []string{"\t", "\n", " "}

func tokName(at int, text string) impl.Token {
	return impl.Token{Kind: impl.TokName, At: at, Text: text}
}

func tokWord(at int, text string) impl.Token {
	return impl.Token{Kind: impl.TokWord, At: at, Text: text}
}

func tokInt(at int, text string, i int) impl.Token {
	return impl.Token{Kind: impl.TokInt, At: at, Text: text, I: i}
}

func tokReal(at int, text string, x float64) impl.Token {
	return impl.Token{Kind: impl.TokReal, At: at, Text: text, X: x}
}

func tokMark(at int, text string) impl.Token {
	return impl.Token{Kind: impl.TokMark, At: at, Text: text}
}

func sameToken(a, b impl.Token) bool {
	return a.Kind == b.Kind && a.At == b.At && a.Text == b.Text && a.I == b.I && same(float(a.X), float(b.X))
}

func lexed(t *testing.T, text string, want ...impl.Token) {
	t.Helper()
	list, code, at := impl.Lex(text)
	if code != impl.LexDone || at != 0 || !slices.EqualFunc(list, want, sameToken) {
		t.Errorf("Lex(%.60q): %v %d %d, not %v", text, firstTokens(list), code, at, firstTokens(want))
	}
}

func lexRefused(t *testing.T, text string, wantCode, wantAt int) {
	t.Helper()
	list, code, at := impl.Lex(text)
	if len(list) != 0 || code != wantCode || at != wantAt {
		t.Errorf("Lex(%.60q): %v %d %d, not %d %d", text, firstTokens(list), code, at, wantCode, wantAt)
	}
}

// cutAs asks for the tokens' texts alone.
func cutAs(t *testing.T, text string, want ...string) {
	t.Helper()
	list, code, at := impl.Lex(text)
	if code != impl.LexDone || at != 0 || !slices.Equal(textsOf(list), want) {
		t.Errorf("Lex(%q): %q %d %d, not %q", text, textsOf(list), code, at, want)
	}
}

// firstTokens keeps what a test tells short.
func firstTokens(list []impl.Token) []impl.Token { return list[:min(len(list), 20)] }

func textsOf(list []impl.Token) []string {
	var texts []string
	for _, k := range list {
		texts = append(texts, k.Text)
	}
	return texts
}

func unplaced(list []impl.Token) []impl.Token {
	list = slices.Clone(list)
	for i := range list {
		list[i].At = 0
	}
	return list
}

// someTokens holds a token of each sort and of each edge, each at the place 0
// of a text of its own.
func someTokens() []impl.Token {
	list := []impl.Token{
		tokName(0, "a"), tokName(0, "Z"), tokName(0, "Hp"), tokName(0, "abcdefghijkl"), tokName(0, "lets"), tokName(0, "le"), tokName(0, "If"),
		tokInt(0, "0", 0), tokInt(0, "7", 7), tokInt(0, "10", 10), tokInt(0, "100200", 100200),
		tokInt(0, "999999999999999", 999999999999999), tokInt(0, "100000000000000", 100000000000000),
		tokReal(0, "0.0", 0), tokReal(0, "0.1", 0.1), tokReal(0, "1.50", 1.5), tokReal(0, "70.007", 70.007),
		tokReal(0, "999999999.999999", 999999999.999999), tokReal(0, "0.000001", 0.000001),
	}
	for _, w := range allWords {
		list = append(list, tokWord(0, w))
	}
	for _, m := range allMarks {
		list = append(list, tokMark(0, m))
	}
	return list
}

// The pieces of a text as plain patterns, to hold the scanner against.
var (
	passedOver = regexp.MustCompile(`^(?:[\t\n ]|#[^\n]*)+`)
	lettersRun = regexp.MustCompile(`^[a-zA-Z]+`)
	numberRun  = regexp.MustCompile(`^[0-9]+(?:\.[0-9]+)?`)
	markRun    = regexp.MustCompile(`^(?:==|[{}();,.$=+\-*/%<])`)
	wholeForm  = regexp.MustCompile(`^(?:0|[1-9][0-9]{0,14})$`)
	realForm   = regexp.MustCompile(`^(?:0|[1-9][0-9]{0,8})\.[0-9]{1,6}$`)
)

// plainLex is the document's chapter written down by patterns.
func plainLex(text string) ([]impl.Token, int, int) {
	if len(text) > impl.MaxText {
		return nil, impl.LexLong, 0
	}
	var list []impl.Token
	for at := 0; at < len(text); {
		rest := text[at:]
		if n := len(passedOver.FindString(rest)); n > 0 {
			at += n
			continue
		}
		k, code := plainToken(rest)
		if code != impl.LexDone {
			return nil, code, at
		}
		k.At = at
		list = append(list, k)
		at += len(k.Text)
	}
	return list, impl.LexDone, 0
}

func plainToken(rest string) (impl.Token, int) {
	if run := lettersRun.FindString(rest); run != "" {
		if slices.Contains(allWords, run) {
			return tokWord(0, run), impl.LexDone
		}
		if len(run) > impl.MaxName {
			return impl.Token{}, impl.LexName
		}
		return tokName(0, run), impl.LexDone
	}
	if run := numberRun.FindString(rest); run != "" {
		return plainNumber(run, lettersRun.MatchString(rest[len(run):]))
	}
	if run := markRun.FindString(rest); run != "" {
		return tokMark(0, run), impl.LexDone
	}
	return impl.Token{}, impl.LexByte
}

func plainNumber(run string, letterBehind bool) (impl.Token, int) {
	switch {
	case letterBehind:
		return impl.Token{}, impl.LexNumber
	case wholeForm.MatchString(run):
		i, _ := strconv.ParseInt(run, 10, 64)
		return tokInt(0, run, int(i)), impl.LexDone
	case realForm.MatchString(run):
		x, _ := strconv.ParseFloat(run, 64)
		return tokReal(0, run, x), impl.LexDone
	}
	return impl.Token{}, impl.LexNumber
}

// lexIsPlain holds Lex against plainLex.
func lexIsPlain(t *testing.T, text string) {
	t.Helper()
	list, code, at := impl.Lex(text)
	wantList, wantCode, wantAt := plainLex(text)
	if code != wantCode || at != wantAt || !slices.EqualFunc(list, wantList, sameToken) {
		t.Errorf("Lex(%.60q): %v %d %d, not %v %d %d", text, firstTokens(list), code, at, firstTokens(wantList), wantCode, wantAt)
	}
}

// anyText throws n pieces together: tokens, what is passed over, and, where
// some are handed in, other pieces.
func anyText(d *dice, n int, others ...string) string {
	pieces := textsOf(someTokens())
	between := slices.Concat(allBlanks, []string{"", "", "  ", " \n\t ", "# a remark é 1a \xff\n", "#\n", "##\n"})
	var b strings.Builder
	for range n {
		if len(others) > 0 && d.roll(10) == 0 {
			b.WriteString(others[d.roll(len(others))])
		} else {
			b.WriteString(pieces[d.roll(len(pieces))])
		}
		b.WriteString(between[d.roll(len(between))])
	}
	return b.String()
}
