package tests

import (
	"slices"
	"testing"

	"loop.example/g00070/impl"
)

// roomyClocks has room ahead of its list and behind it, full of what might be
// taken for an Acc.
func (g *guards) roomyClocks(k impl.Clocks) impl.Clocks {
	k.Acc = guardIn(g, k.Acc, 1, sameInt)
	return k
}

// timesCase is what the functions are given.
type timesCase struct {
	s    impl.Sched
	w    impl.World
	k    impl.Clocks
	tick int
}

func timesCases() []timesCase {
	d := dice(197)
	list := []timesCase{{}, {tick: -1}, {k: behind(3, 1, 2)}, {s: gatedOf("always"), k: ahead(0)}, {s: gatedOf(""), w: impl.NewWorld(gatesReg())}}
	for i := range 120 {
		s := anyGated(&d)
		c := timesCase{s, anyRes(&d, s.Reg), anyClocks(&d, s), anyTick(&d)}
		if i%3 == 0 {
			c.s, c.w, c.k, c.tick = anyMarred(&d)
		}
		list = append(list, c)
	}
	for i, c := range wrongWorlds() {
		if i%15 == 0 {
			list = append(list, timesCase{impl.Sched{Reg: c.r, Text: "system a { }", Systems: []impl.Sys{{Name: "a"}}}, c.w, behind(2, 3), 4})
		}
	}
	return list
}

// Arguments with room ahead of each list and behind it are as they were behind
// each call; and whatever is written into one answer, the arguments and the next
// answer are as before.
func TestTimesLeaveTheArgumentsAlone(t *testing.T) {
	for _, c := range timesCases() {
		wantList, wantNext, wantOk := impl.Times(c.s, c.w, c.k, c.tick)
		wantClocks := impl.ClocksOk(c.s, c.k)
		var all guards
		var marks stamps
		s, w, k := all.roomySched(c.s), all.roomyWorld(c.w), all.roomyClocks(c.k)
		for range 3 {
			if impl.ClocksOk(s, k) != wantClocks || !all.kept() {
				t.Fatal("ClocksOk is not", wantClocks, "or has written into an argument:", clocksText(c.k), schedLine(c.s))
			}
			list, next, ok := impl.Times(s, w, k, c.tick)
			if ok != wantOk || !slices.Equal(list, wantList) || !sameClocks(next, wantNext) || !all.kept() {
				t.Fatal("Times", list, clocksText(next), ok, "not", wantList, clocksText(wantNext), wantOk, all.kept(), schedLine(c.s))
			}
			marks.ints(list)
			marks.ints(next.Acc)
			if !all.kept() {
				t.Fatal("an answer shares memory with an argument:", schedLine(c.s))
			}
		}
		if !marks.kept() {
			t.Fatal("two lists of answers share memory:", schedLine(c.s))
		}
	}
}

// An empty list of Accs that has room behind it is not the one that is handed
// back.
func TestEmptyClocksAreHandedBackInNewMemory(t *testing.T) {
	room := []int{7, 7, 7}
	for _, s := range []impl.Sched{gatedOf(""), gatedOf("always")} {
		for _, tick := range []int{0, -1} {
			_, next, _ := impl.Times(s, impl.NewWorld(s.Reg), impl.Clocks{Acc: room[:0]}, tick)
			scribble(next.Acc, 9)
			if !slices.Equal(room, []int{7, 7, 7}) {
				t.Fatal("the room behind the argument is handed back")
			}
		}
	}
}

// The Clocks that were told may be handed in again, and changed behind that.
func TestClocksHandedInAgain(t *testing.T) {
	s := gatedOf("every=10 every=7,in=1 enter=1")
	w := worldWith(s.Reg, "Phase=1")
	k := ahead(0, 0, 0)
	var told []impl.Clocks
	for range 5 {
		_, next, _ := impl.Times(s, w, k, 8)
		told = append(told, next)
		k = next
	}
	want := []string{"8 1 0", "6 2 0", "4 3 0", "2 4 0", "0 5 0"}
	for i, next := range told {
		if numbersText(next.Acc) != want[i] {
			t.Error("behind frame", i, clocksText(next))
		}
		scribble(next.Acc, -5)
	}
}

// Nothing is kept: other calls between two change nothing.
func TestTimesOneBehindTheOther(t *testing.T) {
	first, second := gatedOf("every=10 in=1"), gatedOf("enter=1 when=Go every=3")
	for range 20 {
		timesAre(t, first, worldWith(first.Reg, "Phase=1"), behind(1, 5, 0), 17, "2 1", behind(1, 2, 0))
		timesAre(t, second, worldWith(second.Reg, "Phase=1 Go=1"), behind(0, 0, 0, 1), 17, "1 1 4", behind(1, 0, 0, 0))
		timesRefused(t, "between", first, worldWith(first.Reg, "Phase=7"), behind(7, 1), 5)
	}
}
