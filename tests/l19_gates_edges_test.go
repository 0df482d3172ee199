package tests

import (
	"fmt"
	"slices"
	"strings"
	"testing"

	"loop.example/g00070/impl"
)

// Just as often as may be, and once more: what is cut off is not run later.
func TestFramesThatCut(t *testing.T) {
	s := gatedOf("every=10")
	w := worldWith(s.Reg, "")
	for _, c := range []struct{ acc, tick, times, left int }{
		{0, 39, 3, 9}, {0, 40, 4, 0}, {0, 49, 4, 9}, {0, 50, 4, 0}, {0, 51, 4, 1}, {0, 91, 4, 1}, {9, 31, 4, 0}, {9, 40, 4, 9}, {9, 41, 4, 0}, {9, 42, 4, 1},
		{40, 0, 4, 0}, {50, 0, 4, 0}, {59, 0, 4, 9}, {4000000, 0, 4, 0}, {3999999, 0, 4, 9}, {4000000, impl.MaxTick, 4, 0}, {4000000, 999999, 4, 9},
	} {
		timesAre(t, s, w, ahead(c.acc), c.tick, fmt.Sprint(c.times), behind(0, c.left))
	}
	a := watchOf("every=10 every=25 every=20")
	a.frame(t, "", 99, "4 3 4", "9 24 19")
	a.frame(t, "", 1, "1 1 1", "0 0 0")
	a.frame(t, "", 125, "4 4 4", "5 0 5")
	a.frame(t, "", 0, "0 0 0", "5 0 5")
}

func TestEverysOfEachSize(t *testing.T) {
	a := watchOf("every=1 every=1000000 every=2 every=999999")
	a.frame(t, "", 0, "0 0 0 0", "0 0 0 0")
	a.frame(t, "", 1, "1 0 0 0", "0 1 1 1")
	a.frame(t, "", 4, "4 0 2 0", "0 5 1 5")
	a.frame(t, "", 5, "4 0 3 0", "0 10 0 10")
	a.frame(t, "", 999989, "4 0 4 1", "0 999999 1 0")
	a.frame(t, "", 1, "1 1 1 0", "0 0 0 1")
	a.frame(t, "", impl.MaxTick, "4 1 4 1", "0 0 0 2")
	a.frame(t, "", impl.MaxTick, "4 1 4 1", "0 0 0 3")
	s := gatedOf("every=1 every=1000000")
	timesAre(t, s, worldWith(s.Reg, ""), ahead(4000000, 4000000), impl.MaxTick, "4 4", behind(0, 0, 0))
	timesAre(t, s, worldWith(s.Reg, ""), ahead(4000000, 4000000), 0, "4 4", behind(0, 0, 0))
	timesAre(t, s, worldWith(s.Reg, ""), ahead(4000000, 4000000), 999999, "4 4", behind(0, 0, 999999))
	timesAre(t, s, worldWith(s.Reg, ""), ahead(4000000, 3999999), 0, "4 3", behind(0, 0, 999999))
}

func TestTicksOfEachSize(t *testing.T) {
	for _, systems := range []string{"", "always", "every=10 always in=0"} {
		s := gatedOf(systems)
		w, k := worldWith(s.Reg, ""), behind(3, make([]int, len(s.Systems))...)
		for _, tick := range []int{0, 1, impl.MaxTick - 1, impl.MaxTick} {
			timesPlain(t, s, w, k, tick)
		}
		for _, tick := range []int{-1, -10, -impl.MaxTick, leastInt, impl.MaxTick + 1, 2 * impl.MaxTick, mostInt} {
			timesRefused(t, "a tick", s, w, k, tick)
		}
	}
}

func TestAccsOfEachSize(t *testing.T) {
	s := gatedOf("always every=10 in=0")
	w := worldWith(s.Reg, "")
	for at := range s.Systems {
		for _, acc := range []int{0, 1, 1000000, 3999999, 4000000} {
			k := behind(0, 1, 2, 3)
			k.Acc[at] = acc
			timesPlain(t, s, w, k, 7)
		}
		for _, acc := range []int{-1, -10, leastInt, 4000001, 5000000, mostInt} {
			k := behind(0, 1, 2, 3)
			k.Acc[at] = acc
			clocksRefused(t, "an Acc", s, w, k)
		}
	}
}

func TestAccsTooFewAndTooMany(t *testing.T) {
	for n := range impl.MaxSys + 1 {
		s := gatedOf(strings.Repeat("every=3 ", n))
		w := worldWith(s.Reg, "")
		for accs := range impl.MaxSys + 2 {
			k := behind(4, slices.Repeat([]int{2}, accs)...)
			if accs == n {
				timesPlain(t, s, w, k, 5)
			} else {
				clocksRefused(t, "the wrong number of Accs", s, w, k)
			}
		}
		clocksRefused(t, "far too many Accs", s, w, behind(0, make([]int, 5000)...))
	}
}

// The least number and the greatest are phases as others are.
func TestPhasesOfEachSize(t *testing.T) {
	phases := []int{leastInt, leastInt + 1, -2, -1, 0, 1, 2, mostInt - 1, mostInt}
	for _, phase := range phases {
		a := watchOf(fmt.Sprintf("in=%d enter=%d leave=%d", phase, phase, phase))
		now := fmt.Sprintf("Phase=%d", phase)
		for _, other := range phases {
			if other == phase {
				continue
			}
			a.k = ahead(0, 0, 0)
			elsewhere := fmt.Sprintf("Phase=%d", other)
			a.frame(t, elsewhere, 0, "0 0 0", "0 0 0")
			a.frame(t, now, 0, "1 1 0", "0 0 0")
			a.frame(t, now, 0, "1 0 0", "0 0 0")
			a.frame(t, elsewhere, 0, "0 0 1", "0 0 0")
			a.frame(t, elsewhere, 0, "0 0 0", "0 0 0")
			a.frame(t, now, 0, "1 1 0", "0 0 0")
		}
	}
}

// Ahead of the first frame there is no phase: 0 is entered, and never left.
func TestGatesOfThePhaseNought(t *testing.T) {
	a := watchOf("in=0 enter=0 leave=0")
	a.frame(t, "Phase=0", 0, "1 1 0", "0 0 0")
	a.frame(t, "Phase=0", 0, "1 0 0", "0 0 0")
	a.frame(t, "Phase=1", 0, "0 0 1", "0 0 0")
	a.frame(t, "Phase=0", 0, "1 1 0", "0 0 0")
	a = watchOf("in=0 enter=0 leave=0")
	a.frame(t, "Phase=1", 0, "0 0 0", "0 0 0")
	a.frame(t, "Phase=0", 0, "1 1 0", "0 0 0")
	a = watchOf("enter=5 leave=5 enter=0")
	a.k.Phase = 5
	a.frame(t, "Phase=5", 0, "1 0 0", "0 0 0")
	a = watchOf("enter=5 leave=5 enter=0")
	a.k.Phase = 5
	a.frame(t, "Phase=0", 0, "0 0 1", "0 0 0")
}

// Who does not run has its clock go on, and gets its time neither twice nor
// later.
func TestClocksBehindShutGates(t *testing.T) {
	a := watchOf("every=10,when=Go every=10,in=2 every=10,enter=2 every=10,leave=2 every=10")
	a.frame(t, "", 25, "0 0 0 0 2", "5 5 5 5 5")
	a.frame(t, "", 4, "0 0 0 0 0", "9 9 9 9 9")
	a.frame(t, "Go=1 Phase=2", 1, "1 1 1 0 1", "0 0 0 0 0")
	a.frame(t, "Go=1 Phase=2", 31, "3 3 0 0 3", "1 1 1 1 1")
	a.frame(t, "", 99, "0 0 0 4 4", "0 0 0 0 0")
	a.frame(t, "Go=1", 0, "0 0 0 0 0", "0 0 0 0 0")
	a.frame(t, "", 57, "0 0 0 0 4", "7 7 7 7 7")
	a.frame(t, "Go=1 Phase=2", 2, "0 0 0 0 0", "9 9 9 9 9")
	a.frame(t, "", 1, "0 0 0 1 1", "0 0 0 0 0")
}

// Each of the two alone keeps a system from running.
func TestWhenAndGateTogether(t *testing.T) {
	systems := "when=Go,in=2 when=Go,enter=2 when=Go,leave=2 every=5,when=Stop,in=2"
	a := watchOf(systems)
	a.frame(t, "Phase=2", 7, "0 0 0 0", "0 0 0 2")
	a.frame(t, "Phase=2 Go=1 Stop=1", 7, "1 0 0 1", "0 0 0 4")
	a.frame(t, "Phase=0 Stop=1", 7, "0 0 0 0", "0 0 0 1")
	a.frame(t, "Phase=0 Go=1 Stop=1", 7, "0 0 0 0", "0 0 0 3")
	a.frame(t, "Phase=2 Go=1", 7, "1 1 0 0", "0 0 0 0")
	a.frame(t, "Phase=0 Go=1 Stop=1", 7, "0 0 1 0", "0 0 0 2")
	a.frame(t, "Phase=2 Stop=1", 7, "0 0 0 1", "0 0 0 4")
	a.frame(t, "Phase=3", 7, "0 0 0 0", "0 0 0 1")
}

// All gates by all phases, with and without a frame before, with and without a
// When.
func TestAllGates(t *testing.T) {
	near := []int{-1, 0, 1}
	count := 0
	for _, gate := range schedGates {
		for _, phase := range near {
			if gate == impl.GateAlways && phase != 0 {
				continue
			}
			for _, when := range []string{"", "Go", "Stop"} {
				s := gatedOf("always every=3")
				for i := range s.Systems {
					s.Systems[i].Gate, s.Systems[i].Phase, s.Systems[i].When = gate, phase, when
				}
				for i := range 3 * 3 * 2 * 2 {
					k := impl.Clocks{Acc: []int{2, 2}, Phase: near[i%3], Begun: i/9%2 == 1}
					list, _ := timesPlain(t, s, worldWith(s.Reg, fmt.Sprintf("Phase=%d Go=%d", near[i/3%3], i/18)), k, 4)
					count += list[0]
					if list[1] != 2*list[0] {
						t.Fatal("one of two with the same gate is shut:", list)
					}
				}
			}
		}
	}
	// Always, in, enter and leave, with half as many by Go and none by Stop.
	if want := 54 + 3*18 + 3*15 + 3*6; count != want {
		t.Error("open", count, "times, not", want)
	}
}

// Without a whole number among the resources the phase is 0, whatever it was.
func TestNoPhase(t *testing.T) {
	s := impl.Sched{Reg: noPhaseReg(), Text: schedText(), Systems: []impl.Sys{{Name: "b"}, {Name: "a", Every: 4, When: "Stop"}}}
	timesAre(t, s, worldWith(s.Reg, "Go=1"), ahead(0, 3), 6, "1 0", behind(0, 0, 1))
	timesAre(t, s, worldWith(s.Reg, "Stop=1"), behind(7, 0, 3), 6, "1 2", behind(0, 0, 1))
	timesAre(t, s, worldWith(s.Reg, "Go=1 Stop=1"), behind(leastInt, 9, 3), 0, "1 0", behind(0, 9, 3))
	for _, gate := range schedGates[1:] {
		gated := turnedBy(s, func(s *impl.Sched) { s.Systems[0].Gate = gate })
		clocksRefused(t, "a gate without a phase", gated, worldWith(s.Reg, "Stop=1"), behind(0, 0, 0))
	}
}

// The Clocks behind a frame in which nothing runs are those of its phase.
func TestFramesInWhichNothingRuns(t *testing.T) {
	a := watchOf("when=Go every=100 in=2 enter=2 leave=2")
	a.frame(t, "Phase=5", 0, "0 0 0 0 0", "0 0 0 0 0")
	if a.k.Phase != 5 || !a.k.Begun {
		t.Error(clocksText(a.k))
	}
	a.frame(t, "Phase=6", 99, "0 0 0 0 0", "0 99 0 0 0")
	a.frame(t, "Phase=-6", 0, "0 0 0 0 0", "0 99 0 0 0")
	if a.k.Phase != -6 || !a.k.Begun {
		t.Error(clocksText(a.k))
	}
	a.frame(t, "", 0, "0 0 0 0 0", "0 99 0 0 0")
	if a.k.Phase != 0 || !a.k.Begun {
		t.Error(clocksText(a.k))
	}
}

func TestAsManyGatesAsSystems(t *testing.T) {
	a := watchOf(strings.Repeat("every=1,in=1 every=2,enter=1 every=3,leave=1 always ", 4))
	a.frame(t, "Phase=1", 2, strings.TrimSpace(strings.Repeat("2 1 0 1 ", 4)), strings.Repeat("0 0 2 0 ", 4))
	a.frame(t, "Phase=1", 2, strings.TrimSpace(strings.Repeat("2 0 0 1 ", 4)), strings.Repeat("0 0 1 0 ", 4))
	a.frame(t, "Phase=2", 2, strings.TrimSpace(strings.Repeat("0 0 1 1 ", 4)), strings.Repeat("0 0 0 0 ", 4))
}
