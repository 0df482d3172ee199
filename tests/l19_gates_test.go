package tests

import (
	"slices"
	"testing"

	"loop.example/g00070/impl"
)

func TestGatesConstants(t *testing.T) {
	if impl.MaxTimes != 4 || impl.MaxTick != 1000000 {
		t.Error(impl.MaxTimes, impl.MaxTick)
	}
}

func TestTimesWithoutSystems(t *testing.T) {
	for _, s := range []impl.Sched{{}, gatedOf(""), {Reg: noPhaseReg(), Text: "system a { }"}} {
		w := impl.NewWorld(s.Reg)
		for _, tick := range []int{0, 5, impl.MaxTick} {
			timesAre(t, s, w, impl.Clocks{}, tick, "", behind(0))
			timesAre(t, s, w, behind(7), tick, "", behind(0))
		}
	}
	s := gatedOf("")
	timesAre(t, s, worldWith(s.Reg, "Phase=9"), behind(7), 3, "", behind(9))
}

// A system that nothing keeps from running runs once in each frame, and its
// clock stands.
func TestSystemsWithoutAnEvery(t *testing.T) {
	a := watchOf("always always always")
	for _, tick := range []int{0, 1, 10, impl.MaxTick} {
		a.frame(t, "", tick, "1 1 1", "0 0 0")
	}
	a.k.Acc = []int{5, 0, 4000000}
	for _, tick := range []int{0, 1, 10, impl.MaxTick} {
		a.frame(t, "", tick, "1 1 1", "5 0 4000000")
	}
}

func TestOneSystemWithAnEvery(t *testing.T) {
	a := watchOf("every=10")
	a.frame(t, "", 0, "0", "0")
	a.frame(t, "", 9, "0", "9")
	a.frame(t, "", 0, "0", "9")
	a.frame(t, "", 1, "1", "0")
	a.frame(t, "", 10, "1", "0")
	a.frame(t, "", 25, "2", "5")
	a.frame(t, "", 25, "3", "0")
	a.frame(t, "", 19, "1", "9")
	a.frame(t, "", 2, "1", "1")
	a.frame(t, "", 30, "3", "1")
	a.frame(t, "", 39, "4", "0")
}

// Each system has a clock of its own.
func TestSomeSystemsWithEverys(t *testing.T) {
	a := watchOf("every=3 always every=10 every=7 every=1000 always")
	a.frame(t, "", 7, "2 1 0 1 0 1", "1 0 7 0 7 0")
	a.frame(t, "", 7, "2 1 1 1 0 1", "2 0 4 0 14 0")
	a.frame(t, "", 0, "0 1 0 0 0 1", "2 0 4 0 14 0")
	a.frame(t, "", 6, "2 1 1 0 0 1", "2 0 0 6 20 0")
	a.frame(t, "", 1, "1 1 0 1 0 1", "0 0 1 0 21 0")
	a.frame(t, "", 979, "4 1 4 4 1 1", "1 0 0 6 0 0")
}

// A clock may stand above its Every, where a schedule has been changed.
func TestClocksAboveTheirEvery(t *testing.T) {
	s := gatedOf("every=10 every=10 every=1000000")
	timesAre(t, s, worldWith(s.Reg, ""), ahead(10, 35, 3000000), 0, "1 3 3", behind(0, 0, 5, 0))
	timesAre(t, s, worldWith(s.Reg, ""), ahead(10, 35, 2999999), 5, "1 4 3", behind(0, 5, 0, 4))
}

func TestSystemsWithAWhen(t *testing.T) {
	a := watchOf("when=Go always when=Stop every=2,when=Go")
	a.frame(t, "", 3, "0 1 0 0", "0 0 0 1")
	a.frame(t, "Go=1", 3, "1 1 0 2", "0 0 0 0")
	a.frame(t, "Stop=1", 3, "0 1 1 0", "0 0 0 1")
	a.frame(t, "Go=1 Stop=1", 3, "1 1 1 2", "0 0 0 0")
	a.frame(t, "Go=1 Phase=1", 3, "1 1 0 1", "0 0 0 1")
	a.frame(t, "Phase=1", 3, "0 1 0 0", "0 0 0 0")
}

// Frames in which the phase comes, stays and goes.
func TestEachGate(t *testing.T) {
	a := watchOf("always in=2 enter=2 leave=2")
	a.frame(t, "Phase=1", 1, "1 0 0 0", "0 0 0 0")
	a.frame(t, "Phase=2", 1, "1 1 1 0", "0 0 0 0")
	a.frame(t, "Phase=2", 1, "1 1 0 0", "0 0 0 0")
	a.frame(t, "Phase=2", 1, "1 1 0 0", "0 0 0 0")
	a.frame(t, "Phase=3", 1, "1 0 0 1", "0 0 0 0")
	a.frame(t, "Phase=3", 1, "1 0 0 0", "0 0 0 0")
	a.frame(t, "Phase=1", 1, "1 0 0 0", "0 0 0 0")
	a.frame(t, "Phase=2", 1, "1 1 1 0", "0 0 0 0")
	a.frame(t, "Phase=-2", 1, "1 0 0 1", "0 0 0 0")
	a.frame(t, "Phase=2", 1, "1 1 1 0", "0 0 0 0")
}

// The systems of one phase leave in the frame in which those of the next enter.
func TestGatesOfTwoPhases(t *testing.T) {
	a := watchOf("in=1 in=2 enter=1 enter=2 leave=1 leave=2")
	a.frame(t, "Phase=1", 0, "1 0 1 0 0 0", "0 0 0 0 0 0")
	a.frame(t, "Phase=2", 0, "0 1 0 1 1 0", "0 0 0 0 0 0")
	a.frame(t, "Phase=2", 0, "0 1 0 0 0 0", "0 0 0 0 0 0")
	a.frame(t, "Phase=1", 0, "1 0 1 0 0 1", "0 0 0 0 0 0")
	a.frame(t, "Phase=0", 0, "0 0 0 0 1 0", "0 0 0 0 0 0")
	a.frame(t, "Phase=2", 0, "0 1 0 1 0 0", "0 0 0 0 0 0")
}

// In the first frame of all there is nothing to leave, and whatever the phase
// is, it is entered.
func TestTheFirstFrame(t *testing.T) {
	for _, phase := range []int{0, 2, -1} {
		s := gatedOf("always in=2 enter=2 leave=2 in=0 enter=0 leave=0")
		for now, want := range map[string]string{"Phase=2": "1 1 1 0 0 0 0", "Phase=0": "1 0 0 0 1 1 0", "Phase=5": "1 0 0 0 0 0 0"} {
			w := worldWith(s.Reg, now)
			k := impl.Clocks{Acc: make([]int, 7), Phase: phase}
			timesAre(t, s, w, k, 0, want, behind(plainPhase(s.Reg, w), make([]int, 7)...))
		}
	}
}

// The phase is the first whole number among the resources, wherever that is.
func TestPhaseOfAWorld(t *testing.T) {
	s := gatedOf("in=3 in=4")
	timesAre(t, s, worldWith(s.Reg, "Phase=3 Other=4 Go=1 Stop=1"), ahead(0, 0), 0, "1 0", behind(3, 0, 0))
	timesAre(t, s, worldWith(s.Reg, "Phase=4 Other=3"), ahead(0, 0), 0, "0 1", behind(4, 0, 0))
	for at := range 4 {
		r := impl.Reg{Ress: slices.Insert([]impl.Decl{decl("Go", impl.KBool), decl("Wind", impl.KReal), decl("Home", impl.KPair)}, at, decl("Now", impl.KInt))}
		s.Reg = r
		timesAre(t, s, worldWith(r, "Now=4 Go=1"), behind(1, 0, 0), 0, "0 1", behind(4, 0, 0))
	}
}

// Worlds with things in them have their phase as well.
func TestTimesOfWorldsWithThings(t *testing.T) {
	s := impl.Sched{Reg: worldReg(), Text: "system a { } system b { }", Systems: []impl.Sys{{Name: "b", Gate: impl.GateIn, Phase: 1000}, {Name: "a", When: "Over", Every: 2}}}
	timesAre(t, s, handWorld(), ahead(1, 1), 3, "1 2", behind(1000, 1, 0))
	timesAre(t, s, withNaNs(), ahead(1, 1), 3, "1 2", behind(1000, 1, 0))
	timesAre(t, s, crowd(impl.MaxEnts), ahead(1, 1), 3, "0 0", behind(0, 1, 0))
}

func TestRightClocks(t *testing.T) {
	for systems, n := range map[string]int{"": 0, "always": 1, "every=10 in=2 when=Go": 3} {
		s := gatedOf(systems)
		for _, k := range []impl.Clocks{{}, {Phase: -9}, {Begun: true}, {Phase: mostInt, Begun: true}} {
			k.Acc = make([]int, n)
			if !impl.ClocksOk(s, k) {
				t.Error("not right:", systems, clocksText(k))
			}
			k.Acc = slices.Repeat([]int{4000000}, n)
			if !impl.ClocksOk(s, k) {
				t.Error("not right:", systems, clocksText(k))
			}
		}
	}
}
