package tests

import (
	"testing"

	"loop.example/g00070/impl"
)

func TestClashConstants(t *testing.T) {
	if impl.ClashComp != 1 || impl.ClashRes != 2 || impl.ClashEvt != 3 || impl.ClashCmd != 4 {
		t.Error("the sorts of clashes")
	}
}

func TestTwoThatAreApart(t *testing.T) {
	for _, c := range [][2]string{
		{"", ""},
		{"", "Write 0 WriteRes 0 Send 0"},
		{"Read 0 1 2", "Read 0 1 2"},
		{"Read 1 Match 1 ReadRes 1 Hear 1", "Read 1 Match 1 ReadRes 1 Hear 1"},
		{"Write 0", "Write 1"},
		{"Write 0", "Read 1"},
		{"Read 0 Write 1", "Read 2 Write 3"},
		{"Write 0 2 4", "Read 1 3 5 Write 7 9"},
		{"ReadRes 0", "ReadRes 0"},
		{"WriteRes 0", "WriteRes 1"},
		{"WriteRes 0", "ReadRes 1"},
		{"Hear 0", "Hear 0"},
		{"Send 0", "Send 1"},
		{"Send 0", "Hear 1"},
		{"Read 0 Match 0 ReadRes 0 Hear 0 Spawns Kills", "Read 0 Match 0 ReadRes 0 Hear 0 Spawns Kills"},
	} {
		clashesAre(t, effOf(c[0]), effOf(c[1]), "")
	}
}

func TestTwoThatClash(t *testing.T) {
	for _, c := range [][3]string{
		{"Write 3", "Read 3", "comp 3"},
		{"Write 3", "Write 3", "comp 3"},
		{"Write 3", "Read 3 Write 3", "comp 3"},
		{"Read 3 Write 3", "Read 3 Write 3", "comp 3"},
		{"Write 0 1 2 3", "Read 1 Write 3", "comp 1, comp 3"},
		{"Read 0 Write 1", "Read 1 Write 0", "comp 0, comp 1"},
		{"Read 2 Write 5", "Read 5 Write 2", "comp 2, comp 5"},
		{"WriteRes 3", "ReadRes 3", "res 3"},
		{"WriteRes 3", "WriteRes 3", "res 3"},
		{"WriteRes 3", "ReadRes 3 WriteRes 3", "res 3"},
		{"ReadRes 0 WriteRes 4", "ReadRes 4 WriteRes 0", "res 0, res 4"},
		{"Send 3", "Hear 3", "evt 3"},
		{"Send 3", "Send 3", "evt 3"},
		{"Send 3", "Send 3 Hear 3", "evt 3"},
		{"Send 0 Hear 6", "Send 6 Hear 0", "evt 0, evt 6"},
	} {
		clashesAre(t, effOf(c[0]), effOf(c[1]), c[2])
	}
}

// The same number is another thing in a list of another sort.
func TestNumbersOfAnotherSort(t *testing.T) {
	sorts := [][]string{{"Read 1", "Write 1"}, {"ReadRes 1", "WriteRes 1"}, {"Hear 1", "Send 1"}}
	for i, of := range sorts {
		for j, other := range sorts {
			if i == j {
				continue
			}
			for _, a := range of {
				for _, b := range other {
					clashesAre(t, effOf(a), effOf(b), "")
					strictlyAre(t, effOf(a), effOf(b), impl.MaxDecls, "")
				}
			}
		}
	}
}

func TestClashesOfSeveralSorts(t *testing.T) {
	for _, c := range [][3]string{
		{"Write 9 ReadRes 5 Send 0", "Read 9 WriteRes 5 Hear 0", "comp 9, res 5, evt 0"},
		{"Write 2 7 WriteRes 0 1 Send 1 3", "Read 2 Write 7 ReadRes 1 WriteRes 0 Send 3 Hear 1", "comp 2, comp 7, res 0, res 1, evt 1, evt 3"},
		{"Write 2 Send 1", "Read 2 Hear 1", "comp 2, evt 1"},
		{"WriteRes 2 Send 1", "ReadRes 2 Hear 1", "res 2, evt 1"},
		{"Write 2 WriteRes 1", "Read 2 ReadRes 1", "comp 2, res 1"},
	} {
		clashesAre(t, effOf(c[0]), effOf(c[1]), c[2])
	}
}

// To ask for a column by an each is no clash of Clashes, nor are commands.
func TestMatchAndCommandsAreNoClashesOfThemselves(t *testing.T) {
	for _, quiet := range []string{"Match 0 1 2", "Add 0 1 2", "Spawns", "Kills", "Match 0 1 2 Add 0 1 2 Spawns Kills"} {
		for _, other := range []string{"", "Read 0 1 2", "Write 0 1 2", "Match 0 1 2", "Add 0 1 2", "Spawns", "Kills", "ReadRes 0 1 2", "WriteRes 0 1 2", "Send 0 1 2", "Hear 0 1 2"} {
			clashesAre(t, effOf(quiet), effOf(other), "")
		}
	}
	clashesAre(t, effOf("Match 1 Write 2 Add 1 Kills"), effOf("Match 2 Read 1 2 Add 2 Kills"), "comp 2")
}

func TestClashesByCommands(t *testing.T) {
	for _, c := range [][3]string{
		{"Add 1", "", ""},
		{"Add 1", "Read 1", "cmd 1"},
		{"Add 1", "Write 1", "cmd 1"},
		{"Add 1", "Match 1", "cmd 1"},
		{"Add 1", "Add 1", "cmd 1"},
		{"Add 1", "Read 1 Write 1 Match 1 Add 1", "cmd 1"},
		{"Add 1", "Read 0 Write 2 Match 3 Add 4", ""},
		{"Add 1", "ReadRes 1 WriteRes 1 Send 1 Hear 1 Spawns", ""},
		{"Add 0 1 2 3 4", "Read 0 Write 1 Match 2 Add 3", "cmd 0, cmd 1, cmd 2, cmd 3"},
		{"Read 0 Add 1", "Read 1 Add 0", "cmd 0, cmd 1"},
		{"Match 0 1", "Match 0 1", ""},
		{"Read 0 Match 1", "Read 1 Match 0", ""},
	} {
		strictlyAre(t, effOf(c[0]), effOf(c[1]), 5, c[2])
	}
}

// Strictly tells what Clashes tells, and commands behind it; one column may be
// both.
func TestStrictlyTellsAllThatClashesTells(t *testing.T) {
	for _, c := range [][3]string{
		{"Write 3", "Read 3", "comp 3"},
		{"Write 3", "Read 3 Match 3", "comp 3"},
		{"WriteRes 3 Send 2", "ReadRes 3 Hear 2", "res 3, evt 2"},
		{"Write 3 Add 3", "Read 3", "comp 3, cmd 3"},
		{"Write 3 Add 0", "Read 3 Match 0", "comp 3, cmd 0"},
		{"Write 3 WriteRes 3 Send 3 Add 3", "Write 3 WriteRes 3 Send 3 Add 3", "comp 3, res 3, evt 3, cmd 3"},
		{"Write 1 4 ReadRes 0 Hear 2 Add 4", "Read 4 Match 0 WriteRes 0 Send 2 Add 1 Spawns", "comp 4, res 0, evt 2, cmd 1, cmd 4"},
	} {
		strictlyAre(t, effOf(c[0]), effOf(c[1]), 5, c[2])
	}
}

// Who clashes by what the texts say, also by way of a function.
func TestClashesOfTexts(t *testing.T) {
	x := checked(t, `
		fn count(n int) int { $Score = $Score + n; return n; }
		system heal { each with Hp { .Hp = .Hp + 1; } }
		system look { each with Hp { let a = .Hp; } }
		system hunt { each with Hp { if .Hp < 0 { kill; } } }
		system grow { each with Hp { put Mp = 1; } }
		system mind { each with On without Mp { } }
		system tell { emit Hit count(1); }
		system note { hear Hit as h { let a = h; } }
		system rate { let a = $Score; }`)
	for _, c := range []struct{ a, b, clashes, strict string }{
		{"heal", "look", "comp 0", "comp 0"},
		{"heal", "heal", "comp 0", "comp 0"},
		{"look", "look", "", ""},
		{"look", "hunt", "", "cmd 0"},
		{"heal", "hunt", "comp 0", "comp 0, cmd 0"},
		{"hunt", "hunt", "", cmdsAt(0, 1, 2, 3, 4, 5, 6, 7)},
		{"look", "grow", "", ""},
		{"mind", "grow", "", "cmd 4"},
		{"hunt", "grow", "", "cmd 0, cmd 4"},
		{"hunt", "mind", "", "cmd 3, cmd 4"},
		{"tell", "note", "evt 0", "evt 0"},
		{"tell", "rate", "res 0", "res 0"},
		{"tell", "tell", "res 0, evt 0", "res 0, evt 0"},
		{"tell", "count", "res 0", "res 0"},
		{"tell", "hunt", "", ""},
		{"note", "rate", "", ""},
	} {
		a, okA := impl.Effects(checkReg(), x, c.a)
		b, okB := impl.Effects(checkReg(), x, c.b)
		if !okA || !okB {
			t.Fatal("no effect:", c.a, c.b)
		}
		clashesAre(t, a, b, c.clashes)
		strictlyAre(t, a, b, len(checkReg().Comps), c.strict)
	}
}

func TestClashesManyTimes(t *testing.T) {
	a, b := effOf("Write 5 3 1 WriteRes 2 0 Send 1 Add 5 4 Kills"), effOf("Read 1 3 5 Match 0 ReadRes 0 2 Hear 1 Kills")
	for range 200 {
		clashesAre(t, a, b, "comp 1, comp 3, comp 5, res 0, res 2, evt 1")
		strictlyAre(t, a, b, 3, "comp 1, comp 3, comp 5, res 0, res 2, evt 1, cmd 0, cmd 1, cmd 2, cmd 5")
		strictlyAre(t, a, b, -1, "")
		if t.Failed() {
			return
		}
	}
}
