package tests

import (
	"slices"
	"testing"

	"loop.example/g00070/impl"
)

// Each thing that a schedule may have wrong, in a schedule whose systems and
// Accs are else right.
func TestTimesOfWrongSchedules(t *testing.T) {
	right := gatedOf("every=10 when=Go,in=2 enter=0")
	right.Systems[0].Sets = []string{"One"}
	right.Rules = []impl.Rule{{Before: "One", After: "b"}}
	w, k := worldWith(right.Reg, "Go=1"), behind(2, 3, 4, 5)
	timesPlain(t, right, w, k, 9)
	for code, turn := range map[int]func(s *impl.Sched){
		impl.SchReg:    func(s *impl.Sched) { s.Reg.Evts = []impl.Decl{decl("Go", impl.KBool)} },
		impl.SchText:   func(s *impl.Sched) { s.Text += "}" },
		impl.SchCheck:  func(s *impl.Sched) { s.Text += "system a { }" },
		impl.SchMany:   func(s *impl.Sched) { s.Rules = slices.Repeat(s.Rules, impl.MaxRules+1) },
		impl.SchSystem: func(s *impl.Sched) { s.Systems[2].Name = "a" },
		impl.SchSet:    func(s *impl.Sched) { s.Systems[0].Sets = []string{"a"} },
		impl.SchGate:   func(s *impl.Sched) { s.Systems[1].When = "Wind" },
		impl.SchRule:   func(s *impl.Sched) { s.Rules[0].After = "q" },
	} {
		s := turnedBy(right, turn)
		if got, _ := impl.SchedOk(s); got != code {
			t.Error("the schedule has the code", got, "not", code)
		}
		clocksRefused(t, "a wrong schedule", s, w, k)
		clocksRefused(t, "a wrong schedule, a new world", s, impl.NewWorld(s.Reg), k)
	}
}

func TestTimesOfWrongGates(t *testing.T) {
	right := gatedOf("always every=1000000 in=2")
	w := worldWith(right.Reg, "")
	timesPlain(t, right, w, behind(0, 0, 0, 0), 9)
	for _, turn := range []func(s *impl.Sched){
		func(s *impl.Sched) { s.Systems[1].Every++ },
		func(s *impl.Sched) { s.Systems[1].Every = -1 },
		func(s *impl.Sched) { s.Systems[1].Every = leastInt },
		func(s *impl.Sched) { s.Systems[0].Phase = 1 },
		func(s *impl.Sched) { s.Systems[2].Gate = 4 },
		func(s *impl.Sched) { s.Systems[2].Gate = -1 },
		func(s *impl.Sched) { s.Systems[2].When = "Phase" },
		func(s *impl.Sched) { s.Systems[2].When = "Hp" },
		func(s *impl.Sched) { s.Systems[2].When = "nobody" },
	} {
		clocksRefused(t, "a wrong gate", turnedBy(right, turn), w, behind(0, 0, 0, 0))
	}
	many := gatedOf("")
	for _, name := range schedNames {
		many.Systems = append(many.Systems, impl.Sys{Name: name})
	}
	clocksRefused(t, "too many systems", many, w, behind(0, make([]int, len(schedNames))...))
}

// Worlds that are wrong by a Reg, the schedule's own.
func TestTimesOfWrongWorlds(t *testing.T) {
	for _, c := range wrongWorlds() {
		s := impl.Sched{Reg: c.r, Text: "system a { }", Systems: []impl.Sys{{Name: "a"}}}
		code, _ := impl.SchedOk(s)
		if got := impl.ClocksOk(s, behind(7, 8)); got != (code == impl.SchDone) {
			t.Error(c.what, "ClocksOk", got, "where the schedule has the code", code)
		}
		timesRefused(t, c.what, s, c.w, behind(7, 8), 10)
		timesRefused(t, c.what, s, c.w, ahead(0), 0)
		s.Systems = nil
		timesRefused(t, c.what+", no systems", s, c.w, behind(7), 10)
	}
}

// A world that is right by another Reg alone.
func TestTimesOfWorldsOfAnotherReg(t *testing.T) {
	other := gatesReg()
	other.Ress[0], other.Ress[2] = other.Ress[2], other.Ress[0]
	longer := gatesReg()
	longer.Ress = append(longer.Ress, decl("More", impl.KInt))
	for _, r := range []impl.Reg{other, longer, {}, noPhaseReg(), worldReg(), checkReg()} {
		for _, systems := range []string{"", "always", "every=10,when=Go in=2"} {
			s := gatedOf(systems)
			k := behind(2, make([]int, len(s.Systems))...)
			timesRefused(t, "a world of another Reg", s, impl.NewWorld(r), k, 5)
			s.Reg = r
			if code, _ := impl.SchedOk(s); code == impl.SchDone {
				timesRefused(t, "a schedule by another Reg", s, impl.NewWorld(gatesReg()), k, 5)
			}
		}
	}
	full := gatesReg()
	s := gatedOf("in=0")
	w, _, _ := impl.Spawn(full, impl.NewWorld(full), []impl.Cell{cell(0, whole(1))})
	timesPlain(t, s, w, ahead(0), 0)
	s.Reg.Comps = nil
	timesRefused(t, "a world with a column that the Reg has not", s, w, ahead(0), 0)
	s.Reg.Comps = []impl.Decl{decl("Hp", impl.KReal)}
	timesRefused(t, "a world with a column of another kind", s, w, ahead(0), 0)
}

// All that may be wrong at once: the Clocks are handed back, whatever they are.
func TestTimesOfAllWrong(t *testing.T) {
	for _, k := range []impl.Clocks{{}, ahead(-1), ahead(mostInt, leastInt), behind(mostInt, 4000001), behind(leastInt, make([]int, 1000)...), behind(0)} {
		for _, s := range []impl.Sched{{Text: "system"}, gatedOf("always"), {Reg: wrongRegs()[0]}, gatedOf("every=10 in=2 when=nobody")} {
			for _, tick := range []int{-1, 0, impl.MaxTick + 1} {
				timesRefused(t, "all wrong", s, impl.World{Res: []impl.Val{{}}}, k, tick)
			}
			clocksRefused(t, "all wrong", s, impl.World{}, k)
		}
	}
}
