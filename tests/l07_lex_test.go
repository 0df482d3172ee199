package tests

import (
	"math/big"
	"slices"
	"strconv"
	"strings"
	"testing"
	"unsafe"

	"loop.example/g00070/impl"
)

func TestLexOneToken(t *testing.T) {
	around := []string{"", " ", "\t", "\n", " \t\n ", "# 1a !\n", "#\n"}
	for _, want := range someTokens() {
		for _, ahead := range around {
			for _, behind := range append(around, "#", "# end") {
				k := want
				k.At = len(ahead)
				lexed(t, ahead+want.Text+behind, k)
			}
		}
	}
}

func TestLexEachLetterAndDigit(t *testing.T) {
	for _, c := range letters {
		lexed(t, string(c), tokName(0, string(c)))
		lexed(t, "x"+string(c)+"x", tokName(0, "x"+string(c)+"x"))
	}
	for i := range 10 {
		s := strconv.Itoa(i)
		lexed(t, s, tokInt(0, s, i))
		lexed(t, "1"+s, tokInt(0, "1"+s, 10+i))
		lexed(t, s+"."+s, tokReal(0, s+"."+s, float64(11*i)/10))
	}
}

func TestLexPlacesAndBytes(t *testing.T) {
	lexed(t, "let x=1.50;# c\n.Hp==$Z 70",
		tokWord(0, "let"), tokName(4, "x"), tokMark(5, "="), tokReal(6, "1.50", 1.5), tokMark(10, ";"),
		tokMark(15, "."), tokName(16, "Hp"), tokMark(18, "=="), tokMark(20, "$"), tokName(21, "Z"), tokInt(23, "70", 70))
	lexed(t, "fn f(a int)real{return-a*2.5;}",
		tokWord(0, "fn"), tokName(3, "f"), tokMark(4, "("), tokName(5, "a"), tokWord(7, "int"), tokMark(10, ")"),
		tokWord(11, "real"), tokMark(15, "{"), tokWord(16, "return"), tokMark(22, "-"), tokName(23, "a"), tokMark(24, "*"),
		tokReal(25, "2.5", 2.5), tokMark(28, ";"), tokMark(29, "}"))
	lexed(t, "# é 名\n\tHp", tokName(len("# é 名\n\t"), "Hp"))
}

func TestLexEqualSigns(t *testing.T) {
	cutAs(t, "=", "=")
	cutAs(t, "==", "==")
	cutAs(t, "= =", "=", "=")
	cutAs(t, "=\n=", "=", "=")
	cutAs(t, "=#\n=", "=", "=")
	cutAs(t, "===", "==", "=")
	cutAs(t, "= ==", "=", "==")
	cutAs(t, "====", "==", "==")
	cutAs(t, "=====", "==", "==", "=")
	cutAs(t, "a==b", "a", "==", "b")
	cutAs(t, "a=-b", "a", "=", "-", "b")
	cutAs(t, "<=", "<", "=")
	cutAs(t, "<==", "<", "==")
}

func TestLexMarksWithoutBlanks(t *testing.T) {
	cutAs(t, "{}();,.$==+-*/%<=", "{", "}", "(", ")", ";", ",", ".", "$", "==", "+", "-", "*", "/", "%", "<", "=")
	for _, m := range allMarks {
		if m == "=" || m == "==" {
			continue
		}
		cutAs(t, m+m, m, m)
		cutAs(t, "a"+m+"b", "a", m, "b")
		cutAs(t, m+"7"+m+"if"+m, m, "7", m, "if", m)
	}
}

// A sign is no part of a number.
func TestLexSigns(t *testing.T) {
	lexed(t, "-7", tokMark(0, "-"), tokInt(1, "7", 7))
	lexed(t, "-0.5", tokMark(0, "-"), tokReal(1, "0.5", 0.5))
	lexed(t, "1-2", tokInt(0, "1", 1), tokMark(1, "-"), tokInt(2, "2", 2))
	lexed(t, "+3", tokMark(0, "+"), tokInt(1, "3", 3))
	lexed(t, "--0", tokMark(0, "-"), tokMark(1, "-"), tokInt(2, "0", 0))
}

func TestLexPoints(t *testing.T) {
	lexed(t, "1.", tokInt(0, "1", 1), tokMark(1, "."))
	lexed(t, "1. 2", tokInt(0, "1", 1), tokMark(1, "."), tokInt(3, "2", 2))
	lexed(t, "1 .2", tokInt(0, "1", 1), tokMark(2, "."), tokInt(3, "2", 2))
	lexed(t, "1.a", tokInt(0, "1", 1), tokMark(1, "."), tokName(2, "a"))
	lexed(t, "1.if", tokInt(0, "1", 1), tokMark(1, "."), tokWord(2, "if"))
	lexed(t, "1..2", tokInt(0, "1", 1), tokMark(1, "."), tokMark(2, "."), tokInt(3, "2", 2))
	lexed(t, "1.#\n2", tokInt(0, "1", 1), tokMark(1, "."), tokInt(4, "2", 2))
	lexed(t, ".5", tokMark(0, "."), tokInt(1, "5", 5))
	lexed(t, "a.5", tokName(0, "a"), tokMark(1, "."), tokInt(2, "5", 5))
	lexed(t, "a.5.5", tokName(0, "a"), tokMark(1, "."), tokReal(2, "5.5", 5.5))
	lexed(t, "1.2.3", tokReal(0, "1.2", 1.2), tokMark(3, "."), tokInt(4, "3", 3))
	lexed(t, "1.2.3.4", tokReal(0, "1.2", 1.2), tokMark(3, "."), tokReal(4, "3.4", 3.4))
	lexed(t, "1.2.a", tokReal(0, "1.2", 1.2), tokMark(3, "."), tokName(4, "a"))
	lexed(t, "100000000000000.", tokInt(0, "100000000000000", 100000000000000), tokMark(15, "."))
	lexRefused(t, "01.", impl.LexNumber, 0)
	lexRefused(t, "1.2.03", impl.LexNumber, 4)
}

func TestLexWholeNumbers(t *testing.T) {
	lexed(t, "0", tokInt(0, "0", 0))
	lexed(t, "0 0", tokInt(0, "0", 0), tokInt(2, "0", 0))
	for digits := 1; digits <= 15; digits++ {
		nines := strings.Repeat("9", digits)
		i, _ := strconv.Atoi(nines)
		lexed(t, nines, tokInt(0, nines, i))
		tens := "1" + strings.Repeat("0", digits-1)
		i, _ = strconv.Atoi(tens)
		lexed(t, tens, tokInt(0, tens, i))
	}
	for _, s := range []string{"1000000000000000", "9999999999999999", "9223372036854775807", "9223372036854775808", strings.Repeat("1", 100), strings.Repeat("7", impl.MaxText)} {
		lexRefused(t, s, impl.LexNumber, 0)
	}
	for _, s := range []string{"00", "01", "07", "010", "000", "0123456789", "000000000000000", "0000000000000000"} {
		lexRefused(t, s, impl.LexNumber, 0)
		lexRefused(t, "a = "+s+" ;", impl.LexNumber, 4)
	}
}

func TestLexRealNumbers(t *testing.T) {
	for ahead := 1; ahead <= 10; ahead++ {
		for behind := 1; behind <= 7; behind++ {
			for _, c := range []string{"1", "9"} {
				s := strings.Repeat(c, ahead) + "." + strings.Repeat(c, behind)
				if ahead > 9 || behind > 6 {
					lexRefused(t, "\n"+s, impl.LexNumber, 1)
					continue
				}
				x, _ := strconv.ParseFloat(s, 64)
				lexed(t, "\n"+s, tokReal(1, s, x))
			}
		}
	}
	for _, s := range []string{"00.1", "01.5", "00.0", "000000000.0", "010.5", "0.0000000", "1234567890.5", "12345678901234567890.5", "1.12345678901234567890"} {
		lexRefused(t, s, impl.LexNumber, 0)
		lexRefused(t, "( "+s, impl.LexNumber, 2)
	}
	lexed(t, "0.0", tokReal(0, "0.0", 0))
	lexed(t, "0.000000", tokReal(0, "0.000000", 0))
	lexed(t, "10.010", tokReal(0, "10.010", 10.01))
}

func TestLexLetterBehindNumber(t *testing.T) {
	for _, s := range []string{"1a", "1.5x", "12if", "0x", "0x10", "1e5", "1.5e3", "01a", "00.1a", "1234567890123456z", "1.1234567b", "9Z", "1abcdefghijklmnop", "7no7"} {
		lexRefused(t, s, impl.LexNumber, 0)
		lexRefused(t, "let x = "+s+" !", impl.LexNumber, 8)
		lexRefused(t, "a.b "+s, impl.LexNumber, 4)
	}
	for _, c := range letters {
		lexRefused(t, "5"+string(c), impl.LexNumber, 0)
		lexRefused(t, "5.5"+string(c), impl.LexNumber, 0)
	}
	cutAs(t, "1 a", "1", "a")
	cutAs(t, "1#\na", "1", "a")
	cutAs(t, "1.5 x", "1.5", "x")
	lexRefused(t, "a1b", impl.LexNumber, 1)
	cutAs(t, "a1", "a", "1")
	lexRefused(t, "1.2.3a", impl.LexNumber, 4)
}

func TestLexNames(t *testing.T) {
	for n := 1; n <= impl.MaxName; n++ {
		lexed(t, strings.Repeat("q", n), tokName(0, strings.Repeat("q", n)))
		lexed(t, letters[len(letters)-n:], tokName(0, letters[len(letters)-n:]))
	}
	for _, n := range []int{impl.MaxName + 1, impl.MaxName + 2, 100, impl.MaxText - 1} {
		lexRefused(t, strings.Repeat("q", n), impl.LexName, 0)
		lexRefused(t, "\t"+strings.Repeat("q", n), impl.LexName, 1)
	}
	lexRefused(t, "a 1 abcdefghijklm!", impl.LexName, 4)
	lexRefused(t, "letletletletlet", impl.LexName, 0)
	for _, w := range allWords {
		lexed(t, w, tokWord(0, w))
		for n := 1; n < len(w); n++ {
			if part := w[:n]; !slices.Contains(allWords, part) {
				lexed(t, part, tokName(0, part))
			}
		}
		for _, s := range []string{w + "s", w + "X", "x" + w, w + w, strings.ToUpper(w), strings.ToUpper(w[:1]) + w[1:]} {
			switch {
			case slices.Contains(allWords, s):
				lexed(t, s, tokWord(0, s))
			case len(s) > impl.MaxName:
				lexRefused(t, s, impl.LexName, 0)
			default:
				lexed(t, s, tokName(0, s))
			}
		}
		lexed(t, w+"."+w, tokWord(0, w), tokMark(len(w), "."), tokWord(len(w)+1, w))
	}
}

func TestLexRemarks(t *testing.T) {
	for _, s := range []string{"#", "##", "# ", "#a", "#\n", "# no ! 01 1a abcdefghijklmnop", "#é", "#\xff\x00\x7f\r", "\n#", "#\n#", "#\n\n#\n"} {
		lexed(t, s)
		cutAs(t, "a"+s, "a")
		cutAs(t, s+"\nb", "b")
		cutAs(t, "a"+s+"\nb", "a", "b")
	}
	for c := range 256 {
		b := string([]byte{byte(c)})
		if c == '\n' {
			cutAs(t, "a#"+b+"b", "a", "b")
			continue
		}
		cutAs(t, "a#"+b+"b", "a")
		cutAs(t, "a#"+b+"\nb", "a", "b")
		cutAs(t, "a#b"+b+"\nb", "a", "b")
	}
	lexRefused(t, "#\n!", impl.LexByte, 2)
	lexRefused(t, "# \xe5\n\xe5", impl.LexByte, 4)
	cutAs(t, "1#\n.5", "1", ".", "5")
}

func TestLexNothing(t *testing.T) {
	for _, s := range []string{"", " ", "\t", "\n", " \t\n \n\t", strings.Repeat(" ", impl.MaxText), strings.Repeat("\n", impl.MaxText)} {
		lexed(t, s)
	}
}

func TestLexLongTexts(t *testing.T) {
	for _, piece := range []string{" ", "a ", "(", "1.5 ", "#", "=", "if\n\n", "7,"} {
		full := strings.Repeat(piece, impl.MaxText/len(piece))
		lexIsPlain(t, full)
		if _, code, at := impl.Lex(full); len(full) != impl.MaxText || code != impl.LexDone || at != 0 {
			t.Errorf("a text of %d bytes, of %q: %d %d", len(full), piece, code, at)
		}
		for _, more := range []string{" ", "\n", "a", "!", "#", "é", strings.Repeat("x", 5*impl.MaxText)} {
			lexRefused(t, full+more, impl.LexLong, 0)
			lexRefused(t, more+full, impl.LexLong, 0)
		}
	}
	// Bytes are counted, not runes.
	lexed(t, "#"+strings.Repeat("é", (impl.MaxText-2)/2)+"\n")
	lexRefused(t, "#"+strings.Repeat("é", impl.MaxText/2), impl.LexLong, 0)
	lexRefused(t, strings.Repeat("!", impl.MaxText), impl.LexByte, 0)
	lexRefused(t, strings.Repeat("!", impl.MaxText+1), impl.LexLong, 0)
	lexRefused(t, strings.Repeat(" ", impl.MaxText-1)+"!", impl.LexByte, impl.MaxText-1)
}

// Promise 7: the tokens' own texts, with blanks between, have the same tokens.
func TestTokensOfTokens(t *testing.T) {
	d := dice(7)
	for round := range 3000 {
		text := anyText(&d, d.roll(40))
		list, code, at := impl.Lex(text)
		if code != impl.LexDone {
			continue
		}
		if at != 0 {
			t.Fatalf("the place %d beside LexDone", at)
		}
		for _, blank := range []string{" ", "\t", "\n", "  ", "#\n", " # x\n"} {
			again, code, _ := impl.Lex(strings.Join(textsOf(list), blank))
			if code != impl.LexDone || !slices.EqualFunc(unplaced(list), unplaced(again), sameToken) {
				t.Fatalf("round %d: %q has %v, and its tokens' texts %v", round, text, list, again)
			}
		}
	}
}

func TestTokensRise(t *testing.T) {
	d := dice(77)
	done := 0
	for range 2000 {
		text := anyText(&d, d.roll(60))
		list, code, _ := impl.Lex(text)
		if code == impl.LexDone {
			done++
		}
		end := 0
		for _, k := range list {
			if k.At < end || text[k.At:k.At+len(k.Text)] != k.Text || k.Text == "" {
				t.Fatalf("%q: the token %v behind the place %d", text, k, end)
			}
			end = k.At + len(k.Text)
		}
	}
	if done < 100 {
		t.Error("only", done, "texts had tokens")
	}
}

func TestLexAnyTexts(t *testing.T) {
	d := dice(707)
	wrong := []string{"!", "é", "\xff", "\x00", "01", "1a", "0.1234567", "abcdefghijklm", "1.", ".", "0", "00", "x", "1", "\r"}
	codes := [5]int{}
	for range 20000 {
		text := anyText(&d, d.roll(12), wrong...)
		_, code, _ := impl.Lex(text)
		codes[code]++
		lexIsPlain(t, text)
	}
	if codes[impl.LexDone] < 100 || codes[impl.LexByte] < 100 || codes[impl.LexNumber] < 100 || codes[impl.LexName] < 100 {
		t.Error("the texts have too few of some code:", codes)
	}
	alphabet := "0011.aZif=-# \n!\xc3\xa9"
	for range 60000 {
		b := make([]byte, d.roll(10))
		for i := range b {
			b[i] = alphabet[d.roll(len(alphabet))]
		}
		lexIsPlain(t, string(b))
	}
}

func TestTokensAreNewMemory(t *testing.T) {
	text := "let x = 1.50 ; # c\n .Hp == 70"
	first, _, _ := impl.Lex(text)
	other, _, _ := impl.Lex(text)
	scribble(first, tokMark(-1, "?"))
	if !slices.EqualFunc(other, []impl.Token{
		tokWord(0, "let"), tokName(4, "x"), tokMark(6, "="), tokReal(8, "1.50", 1.5), tokMark(13, ";"),
		tokMark(20, "."), tokName(21, "Hp"), tokMark(24, "=="), tokInt(27, "70", 70),
	}, sameToken) {
		t.Error("two answers share memory:", other)
	}
	from := uintptr(unsafe.Pointer(unsafe.StringData(text)))
	for _, k := range other {
		if at := uintptr(unsafe.Pointer(unsafe.StringData(k.Text))); at >= from && at < from+uintptr(len(text)) {
			t.Errorf("the text of %v is a piece of the argument", k)
		}
	}
}

func TestRealOf(t *testing.T) {
	d := dice(17)
	texts := []string{"0.0", "0.1", "0.2", "0.3", "0.7", "1.1", "12.25", "3.14159", "999999999.999999", "100000000.000001", "0.000001", "0.999999", "10.0", "5.50", "5.5", "5.500000"}
	for range 20000 {
		texts = append(texts, strconv.Itoa(d.roll(1+d.roll(999999999)))+"."+digitsOf(&d, 1+d.roll(6)))
	}
	for _, s := range texts {
		x, ok := impl.RealOf(s)
		exact, _ := new(big.Rat).SetString(s)
		want, _ := exact.Float64()
		if !ok || !same(float(x), float(want)) {
			t.Fatalf("RealOf(%q): %v %v, not %v", s, x, ok, want)
		}
	}
}

func digitsOf(d *dice, n int) string {
	var b strings.Builder
	for range n {
		b.WriteByte(byte('0' + d.roll(10)))
	}
	return b.String()
}

func TestRealOfWrong(t *testing.T) {
	list := []string{
		"", ".", "1", "12", "0", "1.", ".5", "..", "1..2", "1.2.3", "1.2.", ".1.2", "01.5", "00.1", "00.0", "000.5", "1234567890.5", "1.1234567", "0.0000000",
		"-1.5", "+1.5", "1.-5", "1.+5", "--1.5", " 1.5", "1.5 ", "1 .5", "1. 5", "1.5\n", "\t1.5", "1.5x", "x1.5", "1.x", "x.1", "a.b", "1e5", "1.5e3", "1.5E3", "1.5e-3", "0x1.8", "0x1.8p1",
		"1_0.5", "1.5_0", "1,5", "1:5", "1/5", "inf", "nan", "Inf", "NaN", "1.5\x00", "\x001.5", "१.५", "1.५", "１.５", "1．5", "1.5é", "\xff.5", "1.\xff",
		strings.Repeat("1", 1000000), strings.Repeat("1", 500000) + "." + strings.Repeat("1", 500000), "1." + strings.Repeat("0", 1000000), strings.Repeat(".", 1000000),
		"1.5" + strings.Repeat(" ", 100000), strings.Repeat("0", 100000) + "1.5",
	}
	for c := range 256 {
		if b := string([]byte{byte(c)}); b < "0" || b > "9" {
			list = append(list, b+".5", "5."+b, "5"+b+"5.5", "5.5"+b+"5", b+"5.5", "5.5"+b)
			if b != "." {
				list = append(list, "5"+b+"5")
			}
		}
	}
	for _, s := range list {
		if x, ok := impl.RealOf(s); ok || !same(float(x), float(0)) {
			t.Errorf("RealOf(%.60q): %v %v", s, x, ok)
		}
	}
}
