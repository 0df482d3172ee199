package tests

import (
	"slices"
	"testing"

	"loop.example/g00070/impl"
)

// Lists that are not ascending are lists of numbers like all others: each clash
// stands once, ascending.
func TestClashesOfListsInNoOrder(t *testing.T) {
	for _, c := range [][3]string{
		{"Write 3 2 1", "Read 1 2 3", "comp 1, comp 2, comp 3"},
		{"Write 1 2 3", "Read 3 2 1", "comp 1, comp 2, comp 3"},
		{"Write 9 0 4 7", "Read 7 9", "comp 7, comp 9"},
		{"Write 2 2 2", "Read 2", "comp 2"},
		{"Write 2", "Read 2 2 2", "comp 2"},
		{"Write 2 1 2", "Read 1 2 1 Write 2 1 2", "comp 1, comp 2"},
		{"Write 5 1 5", "Read 1 1 Write 0 5 0", "comp 1, comp 5"},
		{"WriteRes 4 0 4", "ReadRes 0 4 0", "res 0, res 4"},
		{"WriteRes 4 0 4", "WriteRes 0 4 0", "res 0, res 4"},
		{"Send 4 0 4", "Hear 0 4 0", "evt 0, evt 4"},
		{"Send 4 0 4", "Send 0 4 0", "evt 0, evt 4"},
	} {
		clashesAre(t, effOf(c[0]), effOf(c[1]), c[2])
	}
	strictlyAre(t, effOf("Add 7 3 7 5"), effOf("Read 5 5 Match 7 3 Write 7"), 3, "cmd 3, cmd 5, cmd 7")
	strictlyAre(t, effOf("Add 7 1 7 Kills"), effOf("Read 7 2 7 Match 1 1 0"), 3, "cmd 0, cmd 1, cmd 2, cmd 7")
}

// Numbers that no column, resource or stream can have are numbers all the same.
func TestClashesOfStrangeNumbers(t *testing.T) {
	pairs := [][3]string{{"Write", "Read", "comp"}, {"Write", "Write", "comp"}, {"WriteRes", "ReadRes", "res"}, {"WriteRes", "WriteRes", "res"}, {"Send", "Hear", "evt"}, {"Send", "Send", "evt"}}
	for _, n := range strangeNumbers {
		at := " " + numbersText([]int{n})
		for _, p := range pairs {
			clashesAre(t, effOf(p[0]+at), effOf(p[1]+at), p[2]+at)
			strictlyAre(t, effOf(p[0]+at), effOf(p[1]+at), 3, p[2]+at)
		}
		for _, other := range []string{"Read", "Match", "Add"} {
			clashesAre(t, effOf("Add"+at), effOf(other+at), "")
			strictlyAre(t, effOf("Add"+at), effOf(other+at), 3, "cmd"+at)
			strictlyAre(t, effOf("Add"+at+" Kills"), effOf(other+at), 3, "cmd"+at)
		}
		for _, other := range strangeNumbers {
			if other != n {
				clashesAre(t, effOf("Write"+at), effOf("Read "+numbersText([]int{other})), "")
			}
		}
	}
}

// One that kills has the columns from 0 on as targets, and no strange number.
func TestStrangeNumbersAreNoTargetsOfKills(t *testing.T) {
	for _, n := range strangeNumbers {
		at := " " + numbersText([]int{n})
		want := ""
		if n >= 0 && n < impl.MaxDecls {
			want = "cmd" + at
		}
		for _, other := range []string{"Read", "Write", "Match", "Add"} {
			strictlyAre(t, effOf("Kills"), effOf(other+at), impl.MaxDecls, want)
			strictlyAre(t, effOf("Kills"), effOf(other+at), 3, "")
		}
	}
}

func TestLeastAndGreatestNumbersInOrder(t *testing.T) {
	all := slices.Clone(strangeNumbers)
	sorted := slices.Sorted(slices.Values(all))
	var want []impl.Clash
	for _, n := range sorted {
		want = append(want, impl.Clash{Sort: impl.ClashComp, At: n})
	}
	clashesAre(t, impl.Effect{Write: all}, impl.Effect{Read: all}, clashText(want))
	slices.Reverse(all)
	clashesAre(t, impl.Effect{Write: strangeNumbers}, impl.Effect{Read: all[:5], Write: all[5:]}, clashText(want))
	clashesAre(t, impl.Effect{Read: all, Write: all}, impl.Effect{Read: all, Write: all}, clashText(want))
}

// Lists far longer than there are columns, in no order, with numbers twice.
func TestClashesOfLongLists(t *testing.T) {
	const long = 60000
	down := make([]int, long)
	twice := make([]int, long)
	for i := range long {
		down[i] = long - i
		twice[i] = i / 2 * 2
	}
	list := impl.Clashes(impl.Effect{Write: down, Send: twice}, impl.Effect{Read: twice, Hear: down})
	if len(list) != long-2 {
		t.Fatal("long lists:", len(list))
	}
	for i, c := range list {
		want := impl.Clash{Sort: impl.ClashComp, At: 2 * (i + 1)}
		if i >= long/2-1 {
			want = impl.Clash{Sort: impl.ClashEvt, At: 2 * (i + 1 - (long/2 - 1))}
		}
		if c != want {
			t.Fatal("long lists:", i, c)
		}
	}
	if list = impl.Strictly(impl.Effect{Add: down, Kills: true}, impl.Effect{Match: twice}, 2); len(list) != long/2 || list[0].At != 0 || list[1].At != 2 {
		t.Error("long lists of targets:", len(list))
	}
	if !impl.Apart(impl.Effect{Read: down}, impl.Effect{Read: twice}) || impl.Apart(impl.Effect{Write: down}, impl.Effect{Read: []int{1}}) {
		t.Error("Apart of long lists")
	}
}
