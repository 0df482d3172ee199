package tests

import (
	"fmt"
	"strconv"
	"strings"
	"testing"

	"loop.example/g00070/impl"
)

func TestDeskEmptyTexts(t *testing.T) {
	for _, text := range []string{"", "\n", " ", "   \n  \n", "#", "#\n", "# start\n#start\n  # start\n", "\n\n\n", "   #"} {
		deskIs(t, text, "")
	}
}

// The last line may end with a byte 10 or not, and may have no word.
func TestDeskLastLine(t *testing.T) {
	for _, text := range []string{"start\nshow", "start\nshow\n", "start\nshow\n   ", "start\nshow\n\n\n", "start\nshow\n#"} {
		deskIs(t, text, "1: ok\n2: none\n")
	}
}

func TestDeskNumbersLines(t *testing.T) {
	deskIs(t, "\n\nstart\n# one\n \n  show\n#\nfly", "3: ok\n6: none\n8: error 1\n")
	deskIs(t, strings.Repeat("\n", 99)+"strict"+strings.Repeat("\n", 100)+"strict", "100: ok\n200: ok\n")
}

// A remark begins with its first word; within a word, or behind one, the byte is
// as any other one.
func TestDeskRemarks(t *testing.T) {
	script(t, `
# start
#start
   #   start
##
start#        | error 1
start #       | error 1
start # now   | error 1
st#art        | error 1
start         | ok
spawn #       | error 6
system # #    | ok
order #a a#   | ok
plan          | error 4 5 0`)
}

func TestDeskBlanks(t *testing.T) {
	deskIs(t, "   comp   Hp    int   \n  start  \n spawn   Hp    \n   set  X   1 \nframe   1     1   0  \n", "1: ok\n2: ok\n3: thing 0 0\n4: error 6\n5: things 1\n")
	deskIs(t, "res X int\nstart\n          set          X          5\nshow", "1: ok\n2: ok\n3: ok\n4: X=5\n")
}

// Only the byte 32 parts words, and only the byte 10 parts lines.
func TestDeskOtherBytesAreOfWords(t *testing.T) {
	for _, c := range []string{"\t", "\r", "\v", "\f", "\x00", "\x1f", "\x7f", "\x80", "\xff", "\xc2\xa0", "\u00a0", "\u2003", "\u3000", "ä", "\u0085", "\xe2\x80"} {
		deskIs(t, "start"+c, "1: error 1\n")
		deskIs(t, c+"start", "1: error 1\n")
		deskIs(t, c, "1: error 1\n")
		deskIs(t, c+"#", "1: error 1\n")
		deskIs(t, "#"+c, "")
		deskIs(t, "set"+c+"X 1", "1: error 1\n")
		deskIs(t, "order a"+c+"b c\n"+c, "1: ok\n2: error 1\n")
		deskIs(t, "order a "+c+"\nevery "+c, "1: ok\n2: error 1\n")
		deskIs(t, "system "+c+" "+c+"\nevery 1"+c+"\nevery 1", "1: ok\n2: error 1\n3: ok\n")
		deskIs(t, "comp A"+c+" int\ncomp B int"+c+"\nplan", "1: ok\n2: error 1\n3: error 4 1 0\n")
		deskIs(t, c+" start\nstart "+c, "1: error 1\n2: error 1\n")
	}
}

// A blank parts words, also where it follows a byte that could begin a letter
// of several bytes.
func TestDeskBlanksBehindOddBytes(t *testing.T) {
	deskIs(t, "order \xe2 \xf0\x9f\nplan", "1: ok\n2: error 4 8 0\n")
	deskIs(t, "order \xe2  \xf0\x9f \nstrict \xc3", "1: ok\n2: error 1\n")
}

func TestDeskNumbers(t *testing.T) {
	right := []string{"0", "1", "9", "10", "99", "123456789", "999999999", "100000000"}
	wrong := []string{"00", "01", "001", "0123456789", "1234567890", "1000000000", "-1", "+1", "-0", "1.", "1.0", "0x1", "1e3", "one", "1_0", "١", "9223372036854775808", "99999999999999999999", "1a", "a1", "#1", "000000000"}
	for _, n := range right {
		deskIs(t, "system a\nevery "+n+"\ngate "+n+" 1\ngate 1 "+n, "1: ok\n2: ok\n3: ok\n4: ok\n")
		deskIs(t, "res X int\nstart\nset X "+n+"\nshow", "1: ok\n2: ok\n3: ok\n4: X="+n+"\n")
		deskIs(t, "start\nframe 1 1 "+n+"\nframe 1 1 1 "+n, "1: ok\n2: things 0\n3: things 0\n")
	}
	for _, n := range wrong {
		deskIs(t, "system a\nevery "+n+"\ngate "+n+" 1\ngate 1 "+n, "1: ok\n2: error 1\n3: error 1\n4: error 1\n")
		deskIs(t, "res X int\nstart\nset X 3\nset X "+n+"\nshow", "1: ok\n2: ok\n3: ok\n4: error 6\n5: X=3\n")
		deskIs(t, "start\nframe "+n+" 1\nframe 1 "+n+"\nframe 1 1 "+n+"\nframe 1 1 1 "+n+" 1", "1: ok\n2: error 1\n3: error 1\n4: error 1\n5: error 1\n")
		deskIs(t, "text "+n+"\nstart", "1: error 1\n2: ok\n")
	}
}

// There is no empty word, so what would be one is a word too few.
func TestDeskNoEmptyNumber(t *testing.T) {
	deskIs(t, "system a\nevery \nevery  \ngate 1 \ngate  1\ntext \nframe 1 ", "1: ok\n2: error 1\n3: error 1\n4: error 1\n5: error 1\n6: error 1\n7: error 1\n")
}

func TestDeskTextOfNoLines(t *testing.T) {
	deskIs(t, "text 0", "1: ok\n")
	deskIs(t, "text 0\nstart", "1: ok\n2: ok\n")
	deskIs(t, "text 1\n}\nplan\ntext 0\nplan", "1: ok\n3: error 4 2 0\n4: ok\n5: none\n")
}

func TestDeskTextOfAllLines(t *testing.T) {
	// just as many lines as there are; the last one may have no byte
	deskIs(t, "text 1\n", "1: ok\n")
	deskIs(t, "text 1\nsystem a { }", "1: ok\n")
	deskIs(t, "text 2\nsystem a { }\n", "1: ok\n")
	deskIs(t, "text 3\nstart\nstart\nstart", "1: ok\n")
	// one more than there are
	deskIs(t, "text 1", "1: error 2\n")
	deskIs(t, "text 2\nsystem a { }", "1: error 2\n")
	deskIs(t, "text 3\nsystem a { }\n", "1: error 2\n")
	deskIs(t, "start\ntext 4\nstart\nstart\nstart", "1: ok\n2: error 2\n")
	deskIs(t, "text 200\nstart", "1: error 2\n")
	deskIs(t, "text 999999999\nstart", "1: error 2\n")
	many := strings.Repeat("start\n", impl.MaxLines-2)
	deskIs(t, fmt.Sprintf("text %d\n%sstart", impl.MaxLines-1, many), "1: ok\n")
	deskIs(t, fmt.Sprintf("text %d\n%sstart", impl.MaxLines, many), "1: error 2\n")
}

// Lines of a text are no orders, no remarks and not passed over.
func TestDeskTextOfAnyLines(t *testing.T) {
	script(t, `
text 6    | ok
start
# a remark

   
text 1
fly
plan      | error 4 2 0
text 3    | ok
# fine

system a { }
system a  | ok
plan      | stage 0 a`)
}

// The bytes of a text's last line are its own, and a byte 10 is put behind them.
func TestDeskTextEndsWithAByte(t *testing.T) {
	for _, c := range []struct {
		text string
		at   int
	}{{"system", 7}, {"system ", 8}, {"  }", 2}, {"# }", -1}, {"", -1}, {"system a {", 11}, {"é", 0}} {
		told := "none"
		if c.at >= 0 {
			told = "error 4 2 " + strconv.Itoa(c.at)
		}
		deskIs(t, "text 1\n"+c.text+"\nplan", "1: ok\n3: "+told+"\n")
	}
	// a text that is cut off in the middle of a name, and goes on in the next line
	deskIs(t, "text 2\nsystem ab\nc { }\nplan", "1: ok\n4: error 4 2 10\n")
}

// What changes a schedule leaves no game behind, and all else does.
func TestDeskWhichOrdersEndTheGame(t *testing.T) {
	ahead := "res X int\nres G bool\ntext 1\nsystem a { }\nsystem a\nstart\nset X 5\n"
	told := "1: ok\n2: ok\n3: ok\n5: ok\n6: ok\n7: ok\n"
	for order, says := range map[string]string{
		"comp A int": "ok", "res A int": "ok", "event A int": "ok", "text 0": "ok", "system b": "ok",
		"when G": "ok", "every 0": "ok", "gate 0 0": "ok", "order a a": "ok", "strict": "ok",
	} {
		deskIs(t, ahead+order+"\nshow\nspawn\nset X 1\nframe 1 1", told+"8: "+says+"\n9: error 7\n10: error 7\n11: error 7\n12: error 7\n")
	}
	for order, says := range map[string]string{
		"plan": "stage 0 a", "clashes": "none", "": "", "#": "",
	} {
		if says != "" {
			says = "8: " + says + "\n"
		}
		deskIs(t, ahead+order+"\nshow", told+says+"9: X=5\n9: G=no\n")
	}
	deskIs(t, ahead+"spawn\nshow", told+"8: thing 0 0\n9: table\n9: 0.0\n9: X=5\n9: G=no\n")
	deskIs(t, ahead+"frame 0 1\nshow", told+"8: stage 0 +a -a\n8: things 0\n9: X=5\n9: G=no\n")
	deskIs(t, ahead+"set G yes\nshow", told+"8: ok\n9: X=5\n9: G=yes\n")
	deskIs(t, ahead+"show\nshow", told+"8: X=5\n8: G=no\n9: X=5\n9: G=no\n")
	deskIs(t, ahead+"start\nshow", told+"8: ok\n9: X=0\n9: G=no\n")
}

// What is told with an error changes neither the schedule nor the game.
func TestDeskErrorsLeaveTheGame(t *testing.T) {
	ahead := "comp A int\nres X int\nstart\nset X 5\nspawn A\n"
	told := "1: ok\n2: ok\n3: ok\n4: ok\n5: thing 0 0\n"
	for order, says := range map[string]string{
		"comp A": "1", "comp A bit": "1", "res A": "1", "event A B C": "1", "text x": "1", "system": "1", "order a": "1", "strict on": "1",
		"when": "1", "every x": "1", "gate 1": "1", "when G": "3", "every 1": "3", "gate 0 0": "3",
		"plan now": "1", "clashes 1": "1", "start x": "1", "spawn B": "6", "spawn A B": "6", "spawn A A": "5 1", "set X no": "6", "set Y 1": "6", "set X": "1",
		"frame 1": "1", "frame 1 0": "4 4 2", "frame 1 9": "4 4 2", "frame 1000001 1": "4 4 1", "show all": "1", "fly": "1",
	} {
		deskIs(t, ahead+order+"\nshow\nstart\nshow", told+"6: error "+says+"\n7: table A\n7: 0.0 A=0\n7: X=5\n8: ok\n9: X=0\n")
	}
	// nothing can be asked behind a text that is too short
	deskIs(t, ahead+"text 9\nshow\n", told+"6: error 2\n")
}

func TestDeskSetsOtherKinds(t *testing.T) {
	script(t, `
res I int    | ok
res R real   | ok
res P pair   | ok
res B bool   | ok
start        | ok
set I 3      | ok
set B yes    | ok
set R 1      | error 6
set R 1.0    | error 6
set R yes    | error 6
set P 1      | error 6
set P no     | error 6
set I yes    | error 6
set I no     | error 6
set I -1     | error 6
set I 1.5    | error 6
set B 1      | error 6
set B 0      | error 6
set B YES    | error 6
set B No     | error 6
set B true   | error 6
set Q 1      | error 6
set i 1      | error 6
set 1 1      | error 6
show         | I=3; R=0/1024; P=(0/1024 0/1024); B=yes
set I 4 5    | error 1
set I        | error 1
set          | error 1`)
}

func TestDeskSpawnsNoColumns(t *testing.T) {
	script(t, `
comp A int     | ok
comp B int     | ok
res X int      | ok
event E int    | ok
start          | ok
spawn C        | error 6
spawn A C      | error 6
spawn C A      | error 6
spawn X        | error 6
spawn E        | error 6
spawn A X B    | error 6
spawn a        | error 6
spawn A A      | error 5 1
spawn A B A    | error 5 1
spawn B B      | error 5 1
spawn A A C    | error 6
spawn int      | error 6
show           | X=0; E 0 0 0
spawn B A      | thing 0 0
show           | table A B; 0.0 A=0 B=0; X=0; E 0 0 0`)
}

// One table for each set of columns, up to as many as there may be.
func TestDeskSpawnsUpToMaxTables(t *testing.T) {
	names := []string{"A", "B", "C", "D", "E", "F"}
	text, want, line := "", "", 0
	add := func(order, told string) {
		line++
		text += order + "\n"
		want += fmt.Sprintf("%d: %s\n", line, told)
	}
	for _, name := range names {
		add("comp "+name+" int", "ok")
	}
	add("start", "ok")
	for set := range impl.MaxTables + 2 {
		order := "spawn"
		for i, name := range names {
			if set>>i&1 == 1 {
				order += " " + name
			}
		}
		if set < impl.MaxTables {
			add(order, fmt.Sprintf("thing %d 0", set))
		} else {
			add(order, "error 5 3")
		}
	}
	add("spawn A B", fmt.Sprintf("thing %d 0", impl.MaxTables))
	add("frame 1 1", fmt.Sprintf("things %d", impl.MaxTables+1))
	deskIs(t, text, want)
}

// As many things as there may be: a frame makes up to 16 times MaxCmds of them.
func TestDeskSpawnsUpToMaxEnts(t *testing.T) {
	var text strings.Builder
	fmt.Fprintf(&text, "text %d\n", impl.MaxSys)
	for _, name := range schedNames[:impl.MaxSys] {
		fmt.Fprintf(&text, "system %s { loop %d { spawn(); } }\n", name, impl.MaxCmds)
	}
	for _, name := range schedNames[:impl.MaxSys] {
		fmt.Fprintf(&text, "system %s\n", name)
	}
	text.WriteString("start\nframe 1 8\nframe 1 8\nspawn\nframe 1 8\nspawn\nframe 1 1\nspawn")
	got := strings.Split(deskHolds(t, text.String()), "\n")
	var told []string
	for _, line := range got[impl.MaxSys+1:] {
		if _, says, _ := strings.Cut(line, ": "); !strings.HasPrefix(says, "stage") && says != "" {
			told = append(told, says)
		}
	}
	if want := "ok; things 960; things 1920; thing 1920 0; things 2000; error 5 3; things 2000; error 5 3"; strings.Join(told, "; ") != want {
		t.Errorf("%q, not %q", strings.Join(told, "; "), want)
	}
}

func TestDeskWorkers(t *testing.T) {
	ahead := "text 2\nsystem a { spawn(); }\nsystem b { spawn(); }\nsystem a\nsystem b\nstart\n"
	told := "1: ok\n4: ok\n5: ok\n6: ok\n"
	for workers := range 12 {
		moves := "+a -a +b -b"
		if workers > 1 {
			moves = "+a +b -a -b"
		}
		want := fmt.Sprintf("7: stage 0 %s\n7: things 2\n8: table\n8: 0.0\n8: 1.0\n", moves)
		if workers == 0 || workers > impl.MaxWorkers {
			want = "7: error 4 4 2\n8: none\n"
		}
		deskIs(t, ahead+fmt.Sprintf("frame 1 %d 0 1 0\nshow", workers), told+want)
	}
	for _, workers := range []int{1000, 999999999} {
		deskIs(t, ahead+fmt.Sprintf("frame 1 %d\nshow", workers), told+"7: error 4 4 2\n8: none\n")
	}
}

func TestDeskTicks(t *testing.T) {
	ahead := "text 1\nsystem a { spawn(); }\nsystem a\nevery 1000000\nstart\n"
	told := "1: ok\n3: ok\n4: ok\n5: ok\n"
	for _, c := range []struct {
		tick, things int
	}{{0, 0}, {1, 0}, {999999, 0}, {impl.MaxTick, 1}} {
		moves := ""
		if c.things > 0 {
			moves = " +a -a"
		}
		deskIs(t, ahead+fmt.Sprintf("frame %d 1", c.tick), told+fmt.Sprintf("6: stage 0%s\n6: things %d\n", moves, c.things))
	}
	for _, tick := range []int{impl.MaxTick + 1, 999999999} {
		deskIs(t, ahead+fmt.Sprintf("frame %d 1\nframe %d 9\nshow", tick, tick), told+"6: error 4 4 1\n7: error 4 4 1\n8: none\n")
	}
}

// Picks may be none, more than there are moves, and out of any range; there may
// be MaxPicks of them.
func TestDeskPicks(t *testing.T) {
	ahead := "text 2\nsystem a { spawn(); }\nsystem b { spawn(); }\nsystem a\nsystem b\nstart\n"
	told := "1: ok\n4: ok\n5: ok\n6: ok\n"
	for picks, moves := range map[string]string{
		"":                "+a -a +b -b",
		" 0":              "+a -a +b -b",
		" 1":              "+b -b +a -a",
		" 2":              "+a -a +b -b",
		" 999999999":      "+b -b +a -a",
		" 1 1":            "+b +a -a -b",
		" 1 1 1":          "+b +a -b -a",
		" 1 1 1 1 1 1 1":  "+b +a -b -a",
		" 999999998 3 11": "+a +b -b -a",
	} {
		deskIs(t, ahead+"frame 1 2"+picks, told+"7: stage 0 "+moves+"\n7: things 2\n")
	}
	most := strings.Repeat(" 1", impl.MaxPicks)
	deskIs(t, ahead+"frame 1 2"+most, told+"7: stage 0 +b +a -b -a\n7: things 2\n")
	deskIs(t, ahead+"frame 1 2"+most+" 1\nshow", told+"7: error 4 4 2\n8: none\n")
	deskIs(t, ahead+"frame 1000001 2"+most+" 1\nshow", told+"7: error 4 4 1\n8: none\n")
}

// Behind a frame that is refused, the next one is played as if it had not been
// asked for.
func TestDeskFramesBehindARefusedOne(t *testing.T) {
	script(t, `
res X int                | ok
text 1                   | ok
system a { $X = $X + 1; spawn(); }
system a                 | ok
every 10                 | ok
start                    | ok
frame 5 1                | stage 0; things 0
frame 5 0                | error 4 4 2
frame 5 9 1 1            | error 4 4 2
frame 5000000 1          | error 4 4 1
frame 5                  | error 1
frame 5 1 x              | error 1
show                     | X=0
frame 5 1                | stage 0 +a -a; things 1
show                     | table; 0.0; X=1`)
}

// paddedDesk is a text of so many bytes that tells what the first one tells.
func paddedDesk(text string, bytes int) string {
	return text + "\n#" + strings.Repeat("x", bytes-len(text)-2)
}

func TestDeskLongTexts(t *testing.T) {
	text := "start\nshow"
	told := "1: ok\n2: none\n"
	deskIs(t, paddedDesk(text, impl.MaxDesk-1), told)
	deskIs(t, paddedDesk(text, impl.MaxDesk), told)
	deskIs(t, paddedDesk(text, impl.MaxDesk+1), "error 8\n")
	deskIs(t, strings.Repeat(" ", impl.MaxDesk), "")
	deskIs(t, strings.Repeat(" ", impl.MaxDesk+1), "error 8\n")
	deskIs(t, strings.Repeat("x", impl.MaxDesk), "1: error 1\n")
	deskIs(t, strings.Repeat("x", 1000000), "error 8\n")
	deskIs(t, "text 1\n"+strings.Repeat("x", impl.MaxDesk-12)+"\nplan", "1: ok\n3: error 4 2 0\n")
}

func TestDeskManyLines(t *testing.T) {
	lines := func(n int) (string, string) {
		want := ""
		for i := range n {
			want += fmt.Sprintf("%d: ok\n", i+1)
		}
		return strings.TrimSuffix(strings.Repeat("strict\n", n), "\n"), want
	}
	text, want := lines(impl.MaxLines)
	deskIs(t, text, want)
	deskIs(t, text+"\n", "error 8\n")
	text, want = lines(impl.MaxLines - 1)
	deskIs(t, text, want)
	deskIs(t, text+"\n", want)
	deskIs(t, text+"\n\n", "error 8\n")
	deskIs(t, strings.Repeat("\n", impl.MaxLines-1), "")
	deskIs(t, strings.Repeat("\n", impl.MaxLines), "error 8\n")
	deskIs(t, strings.Repeat("\n", impl.MaxDesk+1), "error 8\n")
	// lines of a text are lines, too
	deskIs(t, fmt.Sprintf("text %d%s", impl.MaxLines-1, strings.Repeat("\n", impl.MaxLines-1)), "1: ok\n")
	deskIs(t, fmt.Sprintf("text %d%s", impl.MaxLines, strings.Repeat("\n", impl.MaxLines)), "error 8\n")
}

// refusals is schedules that MakePlan refuses, each with its code and number.
var refusals = []struct {
	what, text, told, clashes string
}{
	{"a name twice", "comp A int\nres A int", "1 0", ""},
	{"a name that is a word", "comp let int", "1 0", ""},
	{"a text that is none", "text 2\nsystem a { }\nsystem { }", "2 20", ""},
	{"a text that may not run", "text 1\nsystem a { let x = 1; $X = 1; }", "3 3", ""},
	{"too many systems", "text 1\nsystem a { }" + strings.Repeat("\nsystem a", impl.MaxSys+1), "4 0", ""},
	{"too many rules", "text 1\nsystem a { }\nsystem a" + strings.Repeat("\norder a a", impl.MaxRules+1), "4 0", ""},
	{"no such system", "text 1\nsystem a { }\nsystem a\nsystem b", "5 1", ""},
	{"a system twice", "text 1\nsystem a { }\nsystem a\nsystem a", "5 1", ""},
	{"a set twice", "text 1\nsystem a { }\nsystem a One One", "6 0", ""},
	{"a set too many", "text 2\nsystem a { }\nsystem b { }\nsystem a\nsystem b One Two Three Four Five", "6 1", ""},
	{"a set with a system's name", "text 2\nsystem a { }\nsystem b { }\nsystem a b", "6 0", ""},
	{"a When of nothing", "text 2\nsystem a { }\nsystem b { }\nsystem b\nsystem a\nwhen Go", "7 1", ""},
	{"a When of a whole number", "res Go int\ntext 1\nsystem a { }\nsystem a\nwhen Go", "7 0", ""},
	{"an Every too great", "text 1\nsystem a { }\nsystem a\nevery 1000001", "7 0", ""},
	{"a gate that is none", "res M int\ntext 1\nsystem a { }\nsystem a\ngate 4 0", "7 0", ""},
	{"a gate without a phase", "text 1\nsystem a { }\nsystem a\ngate 1 0", "7 0", ""},
	{"a phase without a gate", "res M int\ntext 1\nsystem a { }\nsystem a\ngate 0 1", "7 0", ""},
	{"a rule of nobody", "text 1\nsystem a { }\nsystem a\norder a a\norder a b", "8 1", ""},
	{"a circle", "text 3\nsystem a { }\nsystem b { }\nsystem c { }\nsystem a\nsystem b\nsystem c\norder b c\norder c b", "9 1", ""},
	{"a clash", "res X int\ntext 3\nsystem a { }\nsystem b { $X = 1; }\nsystem c { $X = 2; }\nsystem a\nsystem b\nsystem c\nstrict", "10 1", "b c 2 0"},
}

func TestDeskRefusesSchedules(t *testing.T) {
	codes := map[string]bool{}
	for _, c := range refusals {
		text := c.text + "\nplan\nstart\nclashes\nshow"
		lines := len(strings.Split(text, "\n"))
		clashes := c.clashes
		if clashes == "" {
			clashes = "none"
		}
		want := fmt.Sprintf("%d: error 4 %s\n%d: error 4 %s\n%d: %s\n%d: error 7\n", lines-3, c.told, lines-2, c.told, lines-1, clashes, lines)
		if got := deskHolds(t, text); !strings.HasSuffix(got, want) {
			t.Errorf("%s: %q, not %q", c.what, got, want)
		}
		code, _, _ := strings.Cut(c.told, " ")
		codes[code] = true
	}
	for code := impl.SchReg; code <= impl.SchClash; code++ {
		if !codes[strconv.Itoa(code)] {
			t.Error("no schedule is refused by", code)
		}
	}
}

// All 16 systems of one set ahead of each other: more edges than there may be.
func TestDeskRefusesTooManyEdges(t *testing.T) {
	text := fmt.Sprintf("text %d\n", impl.MaxSys)
	for _, name := range schedNames[:impl.MaxSys] {
		text += "system " + name + " { $X = 1; }\n"
	}
	for _, name := range schedNames[:impl.MaxSys] {
		text += "system " + name + " All\n"
	}
	text += "order All All\nres X int\nplan\nstart\nclashes"
	if got := deskHolds(t, text); !strings.HasSuffix(got, "36: error 4 8 0\n37: error 4 8 0\n38: none\n") {
		t.Errorf("%q", got)
	}
}

// As many systems, sets and rules as there may be.
func TestDeskTakesAsManyAsThereMayBe(t *testing.T) {
	text, names := fmt.Sprintf("text %d\n", impl.MaxSys), ""
	for _, name := range schedNames[:impl.MaxSys] {
		text += "system " + name + " { }\n"
		names += " " + name
	}
	for _, name := range schedNames[:impl.MaxSys] {
		text += "system " + name + " One Two Three Four\n"
	}
	for range impl.MaxRules {
		text += "order a p\n"
	}
	for i := range impl.MaxDecls {
		letter := string(rune('A' + i))
		text += "comp C" + letter + " int\nres R" + letter + " bool\nevent E" + letter + " real\n"
	}
	lines := len(strings.Split(text, "\n"))
	got := deskHolds(t, text+"plan\nstart\ncomp Q int\nplan")
	want := fmt.Sprintf("%d: stage 0%s\n%d: ok\n%d: ok\n%d: error 4 1 0\n", lines, names, lines+1, lines+2, lines+3)
	if !strings.HasSuffix(got, want) {
		t.Errorf("%q, not %q", got, want)
	}
}

// A stage in which nobody runs is told all the same.
func TestDeskStagesWithoutMoves(t *testing.T) {
	script(t, `
res Go bool  | ok
text 3       | ok
system a { spawn(); }
system b { spawn(); }
system c { spawn(); }
system a     | ok
when Go      | ok
system b     | ok
when Go      | ok
system c     | ok
order a b    | ok
order b c    | ok
plan         | stage 0 a; stage 1 b; stage 2 c
start        | ok
frame 1 2 1  | stage 0; stage 1; stage 2 +c -c; things 1
set Go yes   | ok
frame 1 2 1  | stage 0 +a -a; stage 1 +b -b; stage 2 +c -c; things 4`)
}
