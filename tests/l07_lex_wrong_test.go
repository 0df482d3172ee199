package tests

import (
	"strings"
	"testing"
	"unicode/utf8"

	"loop.example/g00070/impl"
)

// noBeginnings holds the bytes with which no token begins, and which are not
// passed over.
func noBeginnings() []byte {
	const known = letters + "0123456789{}();,.$=+-*/%<#\t\n "
	var list []byte
	for c := range 256 {
		if strings.IndexByte(known, byte(c)) < 0 {
			list = append(list, byte(c))
		}
	}
	return list
}

func TestLexWrongBytes(t *testing.T) {
	list := noBeginnings()
	if want := 256 - 52 - 10 - 15 - 1 - 3; len(list) != want {
		t.Fatal("bytes that begin nothing:", len(list), "not", want)
	}
	for _, c := range list {
		b := string([]byte{c})
		lexRefused(t, b, impl.LexByte, 0)
		lexRefused(t, b+" let x", impl.LexByte, 0)
		lexRefused(t, "let "+b+" x", impl.LexByte, 4)
		lexRefused(t, "let"+b+"x", impl.LexByte, 3)
		lexRefused(t, "12"+b+"3", impl.LexByte, 2)
		lexRefused(t, "1."+b, impl.LexByte, 2)
		lexRefused(t, "1.5"+b, impl.LexByte, 3)
		lexRefused(t, "="+b+"=", impl.LexByte, 1)
		lexRefused(t, "#\n"+b, impl.LexByte, 2)
		lexRefused(t, "let x = 1 ;\n"+b, impl.LexByte, 12)
		lexRefused(t, b+b+b, impl.LexByte, 0)
	}
}

func TestLexWrongRunes(t *testing.T) {
	runes := []string{
		"é", "ß", "名", "𝄞", "\u0080", "\u07ff", "\u0800", "\ufffd", "\uffff", "\U0010ffff", "\u00a0", "\u2003", "\ufeff", "٣", "１", "ａ", "＝", "µ", "İ", "ı", "ſ", "\u212a",
		"\xc3", "\xe5\x90", "\xf0\x9d\x84", "\xc0\xa0", "\xc0\xaf", "\xe0\x80\x80", "\xed\xa0\x80", "\xf4\x90\x80\x80", "\x80\x80", "\xff\xfe",
	}
	for _, s := range runes {
		lexRefused(t, s, impl.LexByte, 0)
		lexRefused(t, "a"+s+"b", impl.LexByte, 1)
		lexRefused(t, "\n\t ab"+s, impl.LexByte, 5)
		lexRefused(t, "7"+s, impl.LexByte, 1)
		lexRefused(t, "7.5"+s, impl.LexByte, 3)
		lexRefused(t, "7."+s+"5", impl.LexByte, 2)
		lexRefused(t, "#"+s+"\n"+s, impl.LexByte, len(s)+2)
		lexed(t, "#"+s)
		lexed(t, "#"+s+"\na", tokName(len(s)+2, "a"))
		lexIsPlain(t, s+s)
	}
	for r := rune(128); r < 0x3000; r++ {
		if utf8.ValidRune(r) {
			lexRefused(t, "ab"+string(r), impl.LexByte, 2)
		}
	}
}

// Of several faults the leftmost one is told, whatever is behind it.
func TestLexLeftmostFault(t *testing.T) {
	faults := []struct {
		text string
		code int
	}{
		{"!", impl.LexByte}, {"é", impl.LexByte}, {"\xff", impl.LexByte},
		{"01", impl.LexNumber}, {"1a", impl.LexNumber}, {"1.1234567", impl.LexNumber}, {"1234567890123456", impl.LexNumber},
		{"abcdefghijklm", impl.LexName},
	}
	for _, first := range faults {
		for _, other := range faults {
			lexRefused(t, first.text+" "+other.text, first.code, 0)
			lexRefused(t, "if . "+first.text+"\n"+other.text+" x", first.code, 5)
			lexRefused(t, "# "+other.text+"\n"+first.text+" #"+other.text, first.code, len(other.text)+3)
		}
	}
	lexRefused(t, "1!", impl.LexByte, 1)
	lexRefused(t, "01!", impl.LexNumber, 0)
	lexRefused(t, "!01", impl.LexByte, 0)
	lexRefused(t, "abcdefghijklm!", impl.LexName, 0)
	lexRefused(t, "abcdefghijklm1a", impl.LexName, 0)
	lexRefused(t, "abcdefghijkl1a", impl.LexNumber, 12)
	lexRefused(t, "1abcdefghijklm", impl.LexNumber, 0)
	lexRefused(t, "1 abcdefghijklm", impl.LexName, 2)
}

// A long text is refused as long whatever else is wrong with it.
func TestLexLongAheadOfFaults(t *testing.T) {
	for _, s := range []string{"!", "01", "1a", "abcdefghijklm", "\xff"} {
		lexRefused(t, s+strings.Repeat(" ", impl.MaxText-len(s)+1), impl.LexLong, 0)
		if _, code, _ := impl.Lex(s + strings.Repeat(" ", impl.MaxText-len(s))); code == impl.LexLong || code == impl.LexDone {
			t.Errorf("%q in a text of MaxText bytes: %d", s, code)
		}
	}
}
