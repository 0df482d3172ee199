package tests

import (
	"fmt"
	"strings"
	"testing"

	"loop.example/g00070/impl"
)

func TestDeskLimits(t *testing.T) {
	if impl.MaxLines != 200 || impl.MaxDesk != 20000 {
		t.Error(impl.MaxLines, impl.MaxDesk)
	}
}

// Each order alone, as the only line of a text.
func TestDeskOrdersAlone(t *testing.T) {
	for line, told := range map[string]string{
		"comp Hp int":     "ok",
		"res X real":      "ok",
		"event Hit pair":  "ok",
		"comp On bool":    "ok",
		"text 0":          "ok",
		"system a":        "ok",
		"system a One Go": "ok",
		"when Go":         "error 3",
		"every 5":         "error 3",
		"gate 1 2":        "error 3",
		"order a b":       "ok",
		"strict":          "ok",
		"plan":            "none",
		"clashes":         "none",
		"start":           "ok",
		"spawn":           "error 7",
		"spawn Hp":        "error 7",
		"set X 1":         "error 7",
		"frame 1 1":       "error 7",
		"frame 1 1 1 2":   "error 7",
		"show":            "error 7",
	} {
		deskIs(t, line, "1: "+told+"\n")
		deskIs(t, line+"\n", "1: "+told+"\n")
		deskIs(t, "#\n\n "+line+"\n#", "3: "+told+"\n")
	}
}

func TestDeskDeclares(t *testing.T) {
	script(t, `
comp Hp int    | ok
comp Mass real | ok
comp Pos pair  | ok
comp On bool   | ok
res X int      | ok
event Hit int  | ok
res R real     | ok
res P pair     | ok
event Ping bool| ok
res B bool     | ok
start          | ok
show           | X=0; R=0/1024; P=(0/1024 0/1024); B=no; Hit 0 0 0; Ping 0 0 0
spawn On Hp    | thing 0 0
spawn Pos Mass | thing 1 0
show           | table Hp On; 0.0 Hp=0 On=no; table Mass Pos; 1.0 Mass=0/1024 Pos=(0/1024 0/1024); X=0; R=0/1024; P=(0/1024 0/1024); B=no; Hit 0 0 0; Ping 0 0 0`)
}

// One list of declarations does not come into another one, and each has its
// kind.
func TestDeskDeclaresInItsList(t *testing.T) {
	script(t, `
comp A int  | ok
res B int   | ok
event C int | ok
start       | ok
spawn B     | error 6
spawn C     | error 6
spawn A     | thing 0 0
set A 1     | error 6
set C 1     | error 6
set B 1     | ok
show        | table A; 0.0 A=0; B=1; C 0 0 0`)
}

func TestDeskText(t *testing.T) {
	script(t, `
text 4           | ok
system a {
  # a remark of the text

}
system a         | ok
plan             | stage 0 a
text 1           | ok
system b { }
plan             | error 4 5 0
text 2           | ok
system b { }
system a { spawn(); }
plan             | stage 0 a
start            | ok
frame 1 1        | stage 0 +a -a; things 1
text 1           | ok
 system a { spawn(); spawn(); }
show             | error 7
start            | ok
frame 1 1        | stage 0 +a -a; things 2`)
}

// The text's own line ends are bytes of it: a fault is told at its place.
func TestDeskTextHasItsLineEnds(t *testing.T) {
	script(t, `
text 3    | ok
# 9 bytes

} x
plan      | error 4 2 11
start     | error 4 2 11
text 1    | ok
system
plan      | error 4 2 7
text 0    | ok
plan      | none
text 1    | ok

plan      | none`)
}

func TestDeskSetsAndRules(t *testing.T) {
	script(t, `
text 4                | ok
system a { spawn(); }
system b { spawn(); }
system c { }
system d { }
system a One          | ok
system b One Two      | ok
system c Two          | ok
system d              | ok
plan                  | stage 0 a b c d
order One c           | ok
plan                  | stage 0 a b d; stage 1 c
order d One           | ok
plan                  | stage 0 d a b; stage 1 c
order a b             | ok
plan                  | stage 0 d a; stage 1 b; stage 2 c
order Two d           | ok
plan                  | error 4 9 1
start                 | error 4 9 1`)
}

func TestDeskFourSets(t *testing.T) {
	script(t, `
text 2                          | ok
system a { spawn(); }
system b { }
system a One Two Three Four     | ok
system b                        | ok
order Four b                    | ok
plan                            | stage 0 a; stage 1 b
order Three b                   | ok
order b Five                    | ok
plan                            | error 4 8 2`)
}

func TestDeskWhen(t *testing.T) {
	script(t, `
res Go bool           | ok
text 2                | ok
system a { spawn(); }
system b { }
system a              | ok
when Go               | ok
system b              | ok
start                 | ok
frame 1 1             | stage 0 +b -b; things 0
set Go yes            | ok
frame 1 1             | stage 0 +a -a +b -b; things 1
set Go no             | ok
frame 1 1             | stage 0 +b -b; things 1
when Go               | ok
start                 | ok
frame 1 1             | stage 0; things 0`)
}

func TestDeskEvery(t *testing.T) {
	script(t, `
res X int                 | ok
text 2                    | ok
system a { $X = $X + 1; }
system b { $X = $X + 100; }
system a                  | ok
system b                  | ok
every 10                  | ok
start                     | ok
frame 9 1                 | stage 0 +a -a; things 0
frame 1 1                 | stage 0 +a -a +b -b; things 0
show                      | X=102
frame 35 1                | stage 0 +a -a +b -b; things 0
show                      | X=403
frame 5 1                 | stage 0 +a -a +b -b; things 0
show                      | X=504
frame 1000000 1           | stage 0 +a -a +b -b; things 0
show                      | X=905
every 7                   | ok
every 0                   | ok
start                     | ok
frame 0 1                 | stage 0 +a -a +b -b; things 0
show                      | X=101`)
}

func TestDeskGate(t *testing.T) {
	script(t, `
res M int      | ok
text 4         | ok
system in { spawn(); }
system enter { spawn(); }
system leave { spawn(); }
system any { }
system in      | ok
gate 1 2       | ok
system enter   | ok
gate 2 2       | ok
system leave   | ok
gate 3 2       | ok
system any     | ok
gate 1 5       | ok
gate 0 0       | ok
start          | ok
frame 1 1      | stage 0 +any -any; things 0
set M 2        | ok
frame 1 1      | stage 0 +in -in +enter -enter +any -any; things 2
frame 1 1      | stage 0 +in -in +any -any; things 3
set M 3        | ok
frame 1 1      | stage 0 +leave -leave +any -any; things 4
gate 2 999999999 | ok
start          | ok
set M 999999999| ok
frame 1 1      | stage 0 +any -any; things 0`)
}

// What a system has is set in any order, and what is set twice is as it was set
// last; each leaves the others as they are.
func TestDeskWhenEveryAndGate(t *testing.T) {
	rows := [][2]string{{"when No", "when Go"}, {"every 7", "every 10"}, {"gate 3 1", "gate 1 5"}}
	for _, order := range arrangements(len(rows)) {
		text := "res Go bool\nres Mode int\nres Runs int\ntext 1\nsystem a { $Runs = $Runs + 1; }\nsystem a\n"
		for again := range 2 {
			for _, at := range order {
				text += rows[at][again] + "\n"
			}
		}
		text += "start\nframe 10 1\nset Go yes\nframe 10 1\nset Mode 5\nframe 25 1\nframe 4 1\nframe 1 1\nset Go no\nframe 10 1\nshow\n"
		want := ""
		for i, told := range strings.Split("ok; ok; ok; ok; ; ok; ok; ok; ok; ok; ok; ok; ok; stage 0, things 0; ok; stage 0, things 0; ok; stage 0 +a -a, things 0; stage 0, things 0; stage 0 +a -a, things 0; ok; stage 0, things 0; Go=no, Mode=5, Runs=3", "; ") {
			for _, line := range strings.Split(told, ", ") {
				if line != "" {
					want += fmt.Sprintf("%d: %s\n", i+1, line)
				}
			}
		}
		deskIs(t, text, want)
	}
}

func TestDeskStrict(t *testing.T) {
	script(t, `
res X int          | ok
res Y int          | ok
text 3             | ok
system a { $Y = 1; }
system b { $X = 1; }
system c { $X = 2; }
system a           | ok
system b           | ok
system c           | ok
plan               | stage 0 a b c
clashes            | b c 2 0
strict             | ok
plan               | error 4 10 1
start              | error 4 10 1
clashes            | b c 2 0
order b c          | ok
plan               | stage 0 a b c
clashes            | none
strict             | ok
start              | ok`)
}

// Each sort of clash, and the number of what both touch; pairs by who is first.
func TestDeskClashes(t *testing.T) {
	script(t, `
comp A int     | ok
comp B int     | ok
res X int      | ok
res Y int      | ok
event E int    | ok
event F int    | ok
text 6         | ok
system a { each with B { .B = 1; } }
system b { each with B { let x = .B; } $Y = 1; }
system c { $Y = 2; emit F 1; }
system d { hear F as f { } }
system e { spawn(B = 1); }
system g { each with A { kill; } }
system a       | ok
system b       | ok
system c       | ok
system d       | ok
system e       | ok
system g       | ok
clashes        | a b 1 1; a e 4 1; a g 4 1; b c 2 1; b e 4 1; b g 4 1; c d 3 1; e g 4 1
order a b      | ok
order g e      | ok
clashes        | a e 4 1; a g 4 1; b c 2 1; b e 4 1; b g 4 1; c d 3 1
plan           | stage 0 a b c d g; stage 1 e`)
}

func TestDeskSpawnsAndSets(t *testing.T) {
	script(t, `
comp A int    | ok
comp B real   | ok
comp C bool   | ok
res X int     | ok
res G bool    | ok
start         | ok
spawn         | thing 0 0
spawn B       | thing 1 0
spawn C A     | thing 2 0
spawn A B C   | thing 3 0
spawn A C     | thing 4 0
set X 12345   | ok
set G yes     | ok
show          | table; 0.0; table B; 1.0 B=0/1024; table A C; 2.0 A=0 C=no; 4.0 A=0 C=no; table A B C; 3.0 A=0 B=0/1024 C=no; X=12345; G=yes
set X 0       | ok
set G no      | ok
set X 7       | ok
show          | table; 0.0; table B; 1.0 B=0/1024; table A C; 2.0 A=0 C=no; 4.0 A=0 C=no; table A B C; 3.0 A=0 B=0/1024 C=no; X=7; G=no
frame 1 1     | things 5
start         | ok
show          | X=0; G=no`)
}

// What was spawned and set by hand is what the systems find.
func TestDeskSystemsFindWhatIsSet(t *testing.T) {
	script(t, `
comp Hp int   | ok
res X int     | ok
res Go bool   | ok
text 1        | ok
system a { each with Hp { .Hp = .Hp + $X; $X = $X + 1; if $Go { put Hp = 100; } } }
system a      | ok
start         | ok
set X 5       | ok
spawn Hp      | thing 0 0
spawn         | thing 1 0
spawn Hp      | thing 2 0
frame 1 1     | stage 0 +a -a; things 3
show          | table Hp; 0.0 Hp=5; 2.0 Hp=6; table; 1.0; X=7; Go=no
set Go yes    | ok
frame 1 1     | stage 0 +a -a; things 3
show          | table Hp; 0.0 Hp=100; 2.0 Hp=100; table; 1.0; X=9; Go=yes`)
}

// Things that are killed are gone, and their places come again.
func TestDeskThingsComeAndGo(t *testing.T) {
	script(t, `
comp A int    | ok
comp B int    | ok
text 3        | ok
system reap { each with A { kill; } }
system make { spawn(B = 7); spawn(B = 8); }
system move { each with B { drop B; put A = .B; } }
system reap   | ok
when Kill     | ok
system make   | ok
when Make     | ok
system move   | ok
when Move     | ok
res Kill bool | ok
res Make bool | ok
res Move bool | ok
start         | ok
spawn A       | thing 0 0
spawn A       | thing 1 0
spawn B       | thing 2 0
set Kill yes  | ok
frame 1 1     | stage 0 +reap -reap; things 1
show          | table A; table B; 2.0 B=0; Kill=yes; Make=no; Move=no
set Kill no   | ok
set Make yes  | ok
frame 1 1     | stage 0 +make -make; things 3
show          | table A; table B; 2.0 B=0; 1.1 B=7; 0.1 B=8; Kill=no; Make=yes; Move=no
set Make no   | ok
set Move yes  | ok
frame 1 1     | stage 0 +move -move; things 3
show          | table A; 2.0 A=0; 1.1 A=7; 0.1 A=8; table B; table; Kill=no; Make=no; Move=yes
spawn         | thing 3 0`)
}

// The moves hang on workers and picks; what is left does not.
func TestDeskMoves(t *testing.T) {
	script(t, `
res X int      | ok
res Y int      | ok
res Z int      | ok
text 4         | ok
system a { $X = $X + 1; }
system b { $Y = $Y * 10 + 1; }
system c { $X = $X * 10; }
system d { $Z = $X + $Y; spawn(); }
system a       | ok
system b       | ok
system c       | ok
system d       | ok
order b c      | ok
start          | ok
frame 1 1      | stage 0 +a -a +b -b +c -c +d -d; things 1
show           | table; 0.0; X=10; Y=1; Z=11
frame 1 1 1    | stage 0 +b -b +a -a +c -c +d -d; things 2
show           | table; 0.0; 1.0; X=110; Y=11; Z=121
frame 1 2 0 1 1 | stage 0 +a +b -b -a +c -c +d -d; things 3
frame 1 8 1 1 | stage 0 +b +a -a -b +c -c +d -d; things 4
show           | table; 0.0; 1.0; 2.0; 3.0; X=11110; Y=1111; Z=12221
frame 1 2 999999999 1 | stage 0 +b +a -a -b +c -c +d -d; things 5`)
}

// Three that are apart run at one time, where there are as many workers.
func TestDeskSeveralAtOneTime(t *testing.T) {
	script(t, `
text 4         | ok
system a { spawn(); }
system b { spawn(); }
system c { spawn(); }
system d { }
system a All   | ok
system b All   | ok
system c All   | ok
system d       | ok
order All d    | ok
start          | ok
frame 1 1      | stage 0 +a -a +b -b +c -c; stage 1 +d -d; things 3
frame 1 3 2 2 2 0 | stage 0 +c +b +a -a -b -c; stage 1 +d -d; things 6
frame 1 3 0 1 2 2 1 0 5 | stage 0 +a +b +c -c -b -a; stage 1 +d -d; things 9
frame 1 2 0 1 2 2 1 0 5 | stage 0 +a +b -a -b +c -c; stage 1 +d -d; things 12
show           | table; 0.0; 1.0; 2.0; 3.0; 4.0; 5.0; 6.0; 7.0; 8.0; 9.0; 10.0; 11.0`)
}

// Troubles stand in the plan's order, with the fault and the steps.
func TestDeskTroubles(t *testing.T) {
	script(t, `
res X int        | ok
event E int      | ok
text 5           | ok
system zero { spawn(); $X = 5; let q = 1 / 0; $X = 6; }
system long { loop 1000000 { let x = 1; } }
system full { loop 61 { spawn(); } }
system loud { loop 201 { emit E 1; } }
system fine { spawn(); }
system zero      | ok
system long      | ok
system full      | ok
system loud      | ok
system fine      | ok
start            | ok
frame 1 3 4 3 2 1 0 | stage 0 +fine +full +zero -full -zero -fine +long -long +loud -loud; trouble zero 2 3; trouble long 3 2000; trouble full 4 122; trouble loud 4 402; things 1
show             | table; 0.0; X=5; E 0 200 0
frame 1 1        | stage 0 +zero -zero +long -long +full -full +loud -loud +fine -fine; trouble zero 2 3; trouble long 3 2000; trouble full 4 122; trouble loud 4 402; things 2
show             | table; 0.0; 1.0; X=5; E 200 200 0`)
}

// Events that were sent in one frame are old in the next one.
func TestDeskStreams(t *testing.T) {
	script(t, `
res X int       | ok
event Hit int   | ok
event None int  | ok
event Burn real | ok
text 2          | ok
system a { emit Hit 1; emit Hit 20; emit Burn 0.5; }
system b { hear Hit as h { $X = $X + h; } }
system a        | ok
system b        | ok
start           | ok
show            | X=0; Hit 0 0 0; None 0 0 0; Burn 0 0 0
frame 1 1       | stage 0 +a -a +b -b; things 0
show            | X=21; Hit 0 2 0; None 0 0 0; Burn 0 1 0
frame 1 1       | stage 0 +a -a +b -b; things 0
frame 1 1       | stage 0 +a -a +b -b; things 0
show            | X=63; Hit 4 2 0; None 0 0 0; Burn 2 1 0
when Go         | ok
res Go bool     | ok
start           | ok
show            | X=0; Go=no; Hit 0 0 0; None 0 0 0; Burn 0 0 0`)
}

func TestDeskShowsValues(t *testing.T) {
	script(t, `
comp I int     | ok
comp R real    | ok
comp P pair    | ok
comp B bool    | ok
res N int      | ok
res S real     | ok
res Q pair     | ok
res T bool     | ok
res U real     | ok
text 3         | ok
system a { spawn(B = yes, P = pair(1.5, 0.0 - 2.0), I = 0 - 7, R = 0.0 - 0.25); spawn(R = 1.0 / 0.0); }
system b { $N = 0 - 12; $S = 1024.5; $Q = pair(0.5, 0.25); $T = yes; $U = 0.0 / 0.0; }
system c { spawn(I = 999999999999999, P = pair(0.0, 1.0 / 0.0)); }
system a       | ok
system b       | ok
system c       | ok
start          | ok
frame 1 4 2 1 0 | stage 0 +c +a -a -c +b -b; things 3
show           | table I R P B; 0.0 I=-7 R=-256/1024 P=(1536/1024 -2048/1024) B=yes; table R; 1.0 R=big; table I P; 2.0 I=999999999999999 P=(0/1024 big); N=-12; S=1049088/1024; Q=(512/1024 256/1024); T=yes; U=nan`)
}

// A new game is there behind a change and another start, and without a change,
// too.
func TestDeskStartsAgain(t *testing.T) {
	script(t, `
comp A int    | ok
res X int     | ok
text 2        | ok
system a { $X = $X + 1; }
system b { spawn(A = 3); }
system a      | ok
start         | ok
spawn A       | thing 0 0
frame 1 1     | stage 0 +a -a; things 1
show          | table A; 0.0 A=0; X=1
start         | ok
show          | X=0
spawn A       | thing 0 0
system b      | ok
show          | error 7
spawn A       | error 7
set X 1       | error 7
frame 1 1     | error 7
start         | ok
frame 1 2 1   | stage 0 +b -b +a -a; things 1
frame 1 2 1 1 | stage 0 +b +a -a -b; things 2
show          | table A; 0.0 A=3; 1.0 A=3; X=2`)
}

// Whatever is behind, what was told first stays.
func TestDeskTellsTheSameWithMoreBehind(t *testing.T) {
	first := "comp A int\ntext 1\nsystem a { spawn(A = 1); }\nsystem a\nstart\nframe 1 1\nshow"
	told := impl.Desk(first)
	if told != "1: ok\n2: ok\n4: ok\n5: ok\n6: stage 0 +a -a\n6: things 1\n7: table A\n7: 0.0 A=1\n" {
		t.Fatalf("%q", told)
	}
	for _, behind := range []string{"", "\n", "show", "frame 2 8 3", "comp A int\nstart", "text 1\n}\nplan", "text 5\n", "strict\nstart\nfly", strings.Repeat("show\n", 190)} {
		got := deskHolds(t, first+"\n"+behind)
		if !strings.HasPrefix(got, told) {
			t.Errorf("%q tells %q", behind, got)
		}
	}
}
