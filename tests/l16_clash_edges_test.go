package tests

import (
	"testing"

	"loop.example/g00070/impl"
)

func TestClashesOfEmptyEffects(t *testing.T) {
	hollow := impl.Effect{}
	for _, list := range effLists(&hollow) {
		*list = []int{}
	}
	for _, empty := range []impl.Effect{{}, hollow} {
		for _, other := range []impl.Effect{{}, hollow, effOf("Read 0"), effOf("Write 0"), effOf("Match 0"), effOf("Send 0"), effOf("Add 0"), effOf("Spawns Kills")} {
			clashesAre(t, empty, other, "")
			for comps := range impl.MaxDecls + 1 {
				strictlyAre(t, empty, other, comps, "")
			}
		}
		killer := empty
		killer.Kills = true
		strictlyAre(t, killer, effOf("Match 1"), 2, "cmd 1")
		strictlyAre(t, killer, killer, 2, "cmd 0, cmd 1")
	}
}

// All targets of one that kills: each column there is, and Add besides.
func TestTargetsOfOneThatKills(t *testing.T) {
	every := effOf("Match 0 1 2 3 4 5 6 7 8 9 10 11 12 13 20")
	for comps := range impl.MaxDecls + 1 {
		strictlyAre(t, effOf("Kills"), every, comps, cmdsAt(upTo(comps)...))
		strictlyAre(t, effOf("Add 20 Kills"), every, comps, cmdsAt(append(upTo(comps), 20)...))
		strictlyAre(t, effOf("Add 0 Kills"), every, comps, cmdsAt(upTo(max(comps, 1))...))
		strictlyAre(t, effOf("Add 0 20"), every, comps, "cmd 0, cmd 20")
	}
	strictlyAre(t, effOf("Add 4 9 Kills"), effOf("Read 4 Write 1 Match 9 Add 5"), 3, "cmd 1, cmd 4, cmd 9")
	strictlyAre(t, effOf("Add 4 9 Kills"), effOf("Read 3 Write 8 Match 10 Add 5"), 3, "")
}

func TestOneKillsAndTheOtherOne(t *testing.T) {
	for _, c := range [][2]string{
		{"", ""},
		{"Spawns", ""},
		{"Read 1", "cmd 1"},
		{"Write 1", "cmd 1"},
		{"Match 1", "cmd 1"},
		{"Add 1", "cmd 1"},
		{"Read 1 Write 1 Match 1 Add 1 Spawns", "cmd 1"},
		{"Read 0 Write 1 Match 2", "cmd 0, cmd 1, cmd 2"},
		{"Read 3", ""},
		{"Write 3", ""},
		{"Match 3", ""},
		{"Add 3", ""},
		{"ReadRes 1 WriteRes 1 Send 1 Hear 1", ""},
		{"Kills", "cmd 0, cmd 1, cmd 2"},
		{"Add 1 Kills", "cmd 0, cmd 1, cmd 2"},
		{"Add 3 Kills", "cmd 0, cmd 1, cmd 2"},
	} {
		clashesAre(t, effOf("Kills"), effOf(c[0]), "")
		strictlyAre(t, effOf("Kills"), effOf(c[0]), 3, c[1])
		strictlyAre(t, effOf("Spawns Kills"), effOf(c[0]), 3, c[1])
	}
}

func TestBothKill(t *testing.T) {
	for comps := range impl.MaxDecls + 1 {
		strictlyAre(t, effOf("Kills"), effOf("Kills"), comps, cmdsAt(upTo(comps)...))
		strictlyAre(t, effOf("Add 0 Kills"), effOf("Add 30 Kills"), comps, cmdsAt(upTo(comps)...))
		strictlyAre(t, effOf("Add 30 Kills"), effOf("Add 30 Kills"), comps, cmdsAt(append(upTo(comps), 30)...))
	}
	strictlyAre(t, effOf("Add 5 Kills"), effOf("Match 5 Kills"), 2, "cmd 0, cmd 1, cmd 5")
}

// To spawn without a column is to have no targets.
func TestSpawnsAloneIsNoClash(t *testing.T) {
	for _, other := range []string{"", "Spawns", "Read 0 1", "Write 0 1", "Match 0 1", "Add 0 1", "Kills", "Spawns Kills"} {
		clashesAre(t, effOf("Spawns"), effOf(other), "")
		for comps := range impl.MaxDecls + 1 {
			strictlyAre(t, effOf("Spawns"), effOf(other), comps, "")
		}
	}
	strictlyAre(t, effOf("Add 0 Spawns"), effOf("Add 0 Spawns"), 1, "cmd 0")
}

// How many columns there are matters for those that kill alone.
func TestColumnsWithoutKills(t *testing.T) {
	for comps := range impl.MaxDecls + 1 {
		strictlyAre(t, effOf("Write 11 Add 1 11"), effOf("Read 11 Match 1"), comps, "comp 11, cmd 1, cmd 11")
		strictlyAre(t, effOf("Match 0 11"), effOf("Match 0 11"), comps, "")
	}
}

// Below 0 and above MaxDecls nothing is told, not even what Clashes tells.
func TestStrictlyWithNoSuchColumns(t *testing.T) {
	for _, c := range [][3]string{
		{"Write 0 WriteRes 0 Send 0 Add 0", "Read 0 ReadRes 0 Hear 0 Match 0", "comp 0, res 0, evt 0"},
		{"Write 1", "Write 1", "comp 1"},
		{"Kills", "Kills", ""},
		{"Add 1", "Add 1", ""},
		{"", "", ""},
	} {
		a, b := effOf(c[0]), effOf(c[1])
		for _, comps := range []int{-1, -2, -impl.MaxDecls, impl.MaxDecls + 1, impl.MaxDecls + 2, 4000, leastInt, leastInt + 1, mostInt, mostInt - 1} {
			strictlyAre(t, a, b, comps, "")
		}
		clashesAre(t, a, b, c[2])
	}
	strictlyAre(t, effOf("Write 11 Kills"), effOf("Read 11"), impl.MaxDecls, "comp 11, cmd 11")
	strictlyAre(t, effOf("Write 0 Kills"), effOf("Read 0"), 0, "comp 0")
}

// An effect held against itself: all that it writes or sends, and all of its
// targets.
func TestClashesOfAnEffectWithItself(t *testing.T) {
	for _, c := range [][3]string{
		{"Read 0 Match 1 ReadRes 2 Hear 3", "", ""},
		{"Write 0 2", "comp 0, comp 2", ""},
		{"Read 0 1 Write 1 2", "comp 1, comp 2", ""},
		{"ReadRes 0 1 WriteRes 1 2", "res 1, res 2", ""},
		{"Send 0 1 Hear 1 2", "evt 0, evt 1", ""},
		{"Match 0 Add 1", "", "cmd 1"},
		{"Read 3 Add 1 Spawns", "", "cmd 1"},
		{"Read 9 Kills", "", "cmd 0, cmd 1, cmd 2"},
		{"Write 9 Add 9 Kills", "comp 9", "cmd 0, cmd 1, cmd 2, cmd 9"},
	} {
		e := effOf(c[0])
		clashesAre(t, e, e, c[1])
		want := c[1]
		if want != "" && c[2] != "" {
			want += ", "
		}
		strictlyAre(t, e, e, 3, want+c[2])
	}
}

// Each of the lists of a right effect may be as long as there are Decls.
func TestClashesOfTheMostColumns(t *testing.T) {
	var all impl.Effect
	for _, list := range effLists(&all) {
		*list = upTo(impl.MaxDecls)
	}
	all.Kills, all.Spawns = true, true
	want := plainStrictly(all, all, impl.MaxDecls)
	if len(want) != 4*impl.MaxDecls {
		t.Fatal("not all of them clash:", len(want))
	}
	clashesArePlain(t, all, all, impl.MaxDecls)
	for at := range impl.MaxDecls {
		one := impl.Effect{Read: []int{at}, ReadRes: []int{at}, Hear: []int{at}}
		strictlyAre(t, all, one, impl.MaxDecls, clashText([]impl.Clash{{Sort: impl.ClashComp, At: at}, {Sort: impl.ClashRes, At: at}, {Sort: impl.ClashEvt, At: at}, {Sort: impl.ClashCmd, At: at}}))
	}
}
