package tests

import (
	"fmt"
	"strings"
	"testing"
)

// deskAhead is a schedule with a game in which each order could be done.
const deskAhead = "comp Hp int\nres X int\nres Go bool\nevent Hit int\ntext 2\nsystem a { spawn(Hp = $X); }\nsystem b { }\nsystem a One\nsystem b\norder a b\nstart\nset X 5\nframe 1 1\n"

const deskAheadTold = "1: ok\n2: ok\n3: ok\n4: ok\n5: ok\n8: ok\n9: ok\n10: ok\n11: ok\n12: ok\n13: stage 0 +a -a\n13: stage 1 +b -b\n13: things 1\n"

const deskAheadLines = 13

// behindAhead is what a plan, a show and a frame tell from that line on, where
// the schedule and the game are still as they were.
func behindAhead(line int) (text, told string) {
	text = "plan\nclashes\nshow\nframe 1 1\nshow"
	for i, says := range []string{
		"stage 0 a; stage 1 b",
		"none",
		"table Hp; 0.0 Hp=5; X=5; Go=no; Hit 0 0 0",
		"stage 0 +a -a; stage 1 +b -b; things 2",
		"table Hp; 0.0 Hp=5; 1.0 Hp=5; X=5; Go=no; Hit 0 0 0",
	} {
		for _, one := range strings.Split(says, "; ") {
			told += fmt.Sprintf("%d: %s\n", line+i, one)
		}
	}
	return text, told
}

// deskErrs asks that a line has this error, and changes nothing.
func deskErrs(t *testing.T, line, err string) {
	t.Helper()
	text, told := behindAhead(deskAheadLines + 2)
	want := fmt.Sprintf("%d: error %s\n", deskAheadLines+1, err)
	deskIs(t, deskAhead+line+"\n"+text, deskAheadTold+want+told)
}

func TestDeskGoesOnBehindNothingWrong(t *testing.T) {
	text, told := behindAhead(deskAheadLines + 1)
	deskIs(t, deskAhead+text, deskAheadTold+told)
}

// Of each order, lines with just its words, one too few and one too many.
func TestDeskWordsTooFewAndTooMany(t *testing.T) {
	for _, line := range []string{
		"comp", "comp A", "comp A int int", "comp int", "comp A B int", "comp A int #",
		"res", "res A", "res A int yes", "res bool", "res A B bool",
		"event", "event A", "event A int 1", "event real", "event A B real",
		"text", "text 1 1", "text a 1", "text 0 0",
		"system",
		"when", "when Go Go", "when Go now", "when a Go",
		"every", "every 1 1", "every a 1", "every 1 a",
		"gate", "gate 1", "gate 1 1 1", "gate 1 1 a", "gate a 1", "gate 1 a", "gate a b",
		"order", "order a", "order a b c", "order a b a b",
		"strict strict", "strict 1", "strict yes",
		"plan 1", "plan a", "plan plan",
		"clashes a", "clashes a b", "clashes 1",
		"start 1", "start again", "start start",
		"set", "set X", "set X 1 1", "set X X 1", "set X 1 #",
		"frame", "frame 1", "frame x 1", "frame 1 x", "frame 1 1 x", "frame 1 1 1 x", "frame 1 1 x 1", "frame a 1 1", "frame -1 1", "frame 1 -1", "frame 1 1 -1",
		"show X", "show 1", "show show",
	} {
		deskErrs(t, line, "1")
	}
}

// Orders are told in small letters, and whole.
func TestDeskOtherWords(t *testing.T) {
	for _, line := range []string{
		"comp Z int", "res Z int", "event Z int", "text 0", "system b", "when Go", "every 1", "gate 1 1", "order b a",
		"strict", "plan", "clashes", "start", "spawn", "spawn Hp", "set X 1", "frame 1 1", "show",
	} {
		first, rest, _ := strings.Cut(line, " ")
		for _, word := range []string{
			strings.ToUpper(first), strings.ToUpper(first[:1]) + first[1:], first[:len(first)-1], first[1:], first + "s", first + ":",
			"." + first, "/" + first, first + "\r", "\ufeff" + first, first + "\x00", first + first, "\"" + first + "\"", "1" + first, "ſ" + first[1:],
		} {
			deskErrs(t, strings.TrimRight(word+" "+rest, " "), "1")
		}
	}
	for _, word := range []string{
		"fly", "a", "X", "Hp", "Hit", "One", "0", "1", "-", "{", "}", "ok", "none", "error", "stage", "things", "int", "let", "fn", "spawn()", "commands",
		"column", "resource", "component", "events", "sys", "help", "quit", "stop", "\x00", "\xff", "ä", "comp\tA\tint", "start;", "start,show",
	} {
		deskErrs(t, word, "1")
		deskErrs(t, word+" X 1", "1")
	}
}

func TestDeskKindsThatAreNone(t *testing.T) {
	for _, kind := range []string{"odd", "Int", "INT", "ints", "in", "i", "1", "2", "reals", "float", "number", "boolean", "yes", "no", "string", "pairs", "int,", "int;", "KInt", "\x00int", "int\xff", "#int", "0"} {
		for _, order := range []string{"comp", "res", "event"} {
			deskErrs(t, order+" Z "+kind, "1")
		}
	}
}

// A name that no Reg has is taken, and the schedule refused; it is so until the
// end, for no order takes a name out.
func TestDeskNamesThatAreNone(t *testing.T) {
	for _, name := range []string{
		"abcdefghijklm", strings.Repeat("x", 1000), "let", "system", "spawn", "int", "pick", "yes", "A1", "1", "a_b", "a-b", "é", "\xff", "\x00", "A\t", "A.B", "{", ";", "a#", "Hp", "X", "Go", "Hit",
	} {
		for _, order := range []string{"comp", "res", "event"} {
			deskIs(t, deskAhead+order+" "+name+" bool\nplan\nclashes\nspawn Hp\nstart\nshow",
				deskAheadTold+"14: ok\n15: error 4 1 0\n16: none\n17: error 7\n18: error 4 1 0\n19: error 7\n")
		}
	}
	// these are names of a Reg all the same
	for _, name := range []string{"abcdefghijkl", "a", "b", "One", "x", "start", "comp", "LET", "Yes", "odd"} {
		deskIs(t, deskAhead+"comp "+name+" bool\nplan\nstart\nspawn "+name, deskAheadTold+"14: ok\n15: stage 0 a\n15: stage 1 b\n16: ok\n17: thing 0 0\n")
	}
}

func TestDeskTooManyDeclarations(t *testing.T) {
	for _, order := range []string{"comp", "res", "event"} {
		text, told := "", ""
		for i := range 13 {
			text += fmt.Sprintf("%s A%c int\n", order, 'A'+i)
			told += fmt.Sprintf("%d: ok\n", i+1)
			if i == 11 {
				deskIs(t, text+"plan\nstart", told+"13: none\n14: ok\n")
			}
		}
		deskIs(t, text+"plan\nstart", told+"14: error 4 1 0\n15: error 4 1 0\n")
	}
}

// Systems, sets, rules and gates that are none are taken, too, and told by plan
// and start.
func TestDeskSchedulesThatAreNone(t *testing.T) {
	for _, c := range []struct{ line, told string }{
		{"system a", "5 2"}, {"system c", "5 2"}, {"system A", "5 2"}, {"system X", "5 2"}, {"system let", "5 2"}, {"system \xff One", "5 2"}, {"system a#", "5 2"},
		{"when X", "7 1"}, {"when Hp", "7 1"}, {"when go", "7 1"}, {"when yes", "7 1"}, {"when \xff", "7 1"},
		{"every 1000001", "7 1"}, {"every 999999999", "7 1"},
		{"gate 4 0", "7 1"}, {"gate 999999999 0", "7 1"}, {"gate 0 1", "7 1"}, {"gate 0 999999999", "7 1"},
		{"order a c", "8 1"}, {"order One Two", "8 1"}, {"order X Hp", "8 1"}, {"order \xff a", "8 1"}, {"order one b", "8 1"},
		{"order b a", "9 0"}, {"order b One", "9 0"},
	} {
		deskIs(t, deskAhead+c.line+"\nplan\nclashes\nset X 1\nstart\nframe 1 1",
			deskAheadTold+"14: ok\n15: error 4 "+c.told+"\n16: none\n17: error 7\n18: error 4 "+c.told+"\n19: error 7\n")
	}
}

func TestDeskSetsThatAreNone(t *testing.T) {
	for _, sets := range []string{"a", "b", "c", "One One", "One Two One", "let", "abcdefghijklm", "A1", "\xff", "One #", "A B C D E"} {
		deskIs(t, "text 3\nsystem a { }\nsystem b { }\nfn c() int { return 1; }\nsystem b Two\nsystem a "+sets+"\nplan\nstart\nclashes",
			"1: ok\n5: ok\n6: ok\n7: error 4 6 1\n8: error 4 6 1\n9: none\n")
	}
}

// Texts that are no systems are taken, and told by plan and start; the next text
// takes their place.
func TestDeskTextsThatAreNone(t *testing.T) {
	for _, c := range []struct{ text, told string }{
		{"}", "2 0"},
		{"start", "2 0"},
		{"system", "2 7"},
		{"system a", "2 9"},
		{"system a { ", "2 12"},
		{"system a { } }", "2 13"},
		{"system a { let x = ; }", "2 19"},
		{"system \xff { }", "2 7"},
		{"\tsystem a { } \x00", "2 14"},
		{"system a { $Y = 1; }", "3 1"},
		{"system a { $X = yes; }", "3 1"},
		{"system a { } system a { }", "3 3"},
		{"system a { each with No { } }", "3 0"},
		{"fn a() int { return 1; }", "5 0"},
		{"", "5 0"},
	} {
		text := "comp Hp int\nres X int\nsystem a\ntext 1\n" + c.text + "\nplan\nclashes\nstart\nshow\ntext 1\nsystem a { }\nplan\nstart\nshow"
		deskIs(t, text, "1: ok\n2: ok\n3: ok\n4: ok\n6: error 4 "+c.told+"\n7: none\n8: error 4 "+c.told+"\n9: error 7\n10: ok\n12: stage 0 a\n13: ok\n14: X=0\n")
	}
}

// A text of more bytes than a text of systems may have is taken, and refused.
func TestDeskTextThatIsTooLong(t *testing.T) {
	long := "system a { } #" + strings.Repeat("x", 4000-15)
	deskIs(t, "text 1\n"+long+"\nsystem a\nplan", "1: ok\n3: ok\n4: stage 0 a\n")
	deskIs(t, "text 1\n"+long+"x\nsystem a\nplan\nstart", "1: ok\n3: ok\n4: error 4 2 0\n5: error 4 2 0\n")
	deskIs(t, "text 2\n"+long+"\n\nsystem a\nplan\nstart", "1: ok\n4: ok\n5: error 4 2 0\n6: error 4 2 0\n")
}

// A line that is no order is so without a game or a system, too; where it is
// one, the game is asked for ahead of the names.
func TestDeskWrongLinesWithoutAGame(t *testing.T) {
	for line, err := range map[string]string{
		"set X": "1", "set X 1 2": "1", "frame 1": "1", "frame x 1": "1", "show X": "1", "frame": "1", "frame 1 1 -1": "1",
		"every x": "1", "every": "1", "when": "1", "when A B": "1", "gate 1": "1", "gate 1 x": "1",
		"spawn": "7", "spawn No": "7", "spawn A A": "7", "set No 1": "7", "set X 1": "7", "set X no": "7", "frame 1 1": "7", "frame 1 0": "7", "frame 9999999 9": "7",
		"every 1000001": "3", "gate 9 9": "3", "when No": "3",
	} {
		deskIs(t, line+"\nstart\nshow", "1: error "+err+"\n2: ok\n3: none\n")
	}
}

// Many wrong lines, one behind the other, leave what there is.
func TestDeskManyWrongLines(t *testing.T) {
	lines := []string{"comp", "res X", "event Hit in", "text", "system", "when a b", "every -1", "gate 0", "order b", "strict x", "plan x", "clashes x", "start x", "spawn X", "set Go 1", "frame 1 9", "show x", "fly", "#"}
	errs := strings.Fields("1 1 1 1 1 1 1 1 1 1 1 1 1 6 6 4 1 1")
	told := deskAheadTold
	for i, err := range errs {
		if err == "4" {
			err = "4 4 2"
		}
		told += fmt.Sprintf("%d: error %s\n", deskAheadLines+1+i, err)
	}
	text, behind := behindAhead(deskAheadLines + 1 + len(lines))
	deskIs(t, deskAhead+strings.Join(lines, "\n")+"\n"+text, told+behind)
}
