package tests

import (
	"slices"
	"testing"

	"loop.example/g00070/impl"
)

func TestAnyTimes(t *testing.T) {
	d := dice(191)
	met, cut := map[int]int{}, 0
	for range 2500 {
		s := anyGated(&d)
		w, k, tick := anyRes(&d, s.Reg), anyClocks(&d, s), anyTick(&d)
		list, next := timesPlain(t, s, w, k, tick)
		for i, system := range s.Systems {
			met[list[i]]++
			if often, _ := plainDue(system.Every, k.Acc[i], tick); often > list[i] && list[i] > 0 {
				cut++
			}
			if system.Every > 0 && next.Acc[i] >= system.Every {
				t.Fatal("the clock has a whole Every left:", next.Acc[i], system.Every)
			}
		}
	}
	for times := range impl.MaxTimes + 1 {
		if met[times] < 100 {
			t.Error("hardly ever run", times, "times:", met[times])
		}
	}
	if len(met) != impl.MaxTimes+1 || cut < 500 {
		t.Error("times:", met, "cut:", cut)
	}
}

// anyMarred is right arguments with one thing turned, which may be right still.
func anyMarred(d *dice) (impl.Sched, impl.World, impl.Clocks, int) {
	s := cloneSched(anyGated(d))
	w, k, tick := anyRes(d, s.Reg), anyClocks(d, s), anyTick(d)
	switch d.roll(6) {
	case 0:
		oneOf(d, schedFaults)(d, &s)
	case 1:
		k.Acc = append(k.Acc, anyTick(d))[d.roll(2):]
	case 2:
		if len(k.Acc) > 0 {
			k.Acc[d.roll(len(k.Acc))] = oneOf(d, []int{-1, leastInt, 4000001, 4000000, mostInt})
		}
	case 3:
		tick = oneOf(d, []int{-1, leastInt, impl.MaxTick + 1, mostInt})
	case 4:
		w.Res[d.roll(len(w.Res))] = oneOf(d, []impl.Val{{}, whole(1), float(1), yesNo(true), {Kind: impl.KBool, I: 2}, {Kind: impl.KInt, X: 1}})
	case 5:
		w = anyRes(d, oneOf(d, []impl.Reg{gatesReg(), noPhaseReg(), worldReg()}))
	}
	return s, w, k, tick
}

// Right or not is asked by the other chapters' functions.
func TestAnyWrongTimes(t *testing.T) {
	d := dice(192)
	right, wrong := 0, 0
	for range 4000 {
		s, w, k, tick := anyMarred(&d)
		code, _ := impl.SchedOk(s)
		clocks := code == impl.SchDone && len(k.Acc) == len(s.Systems) && !slices.ContainsFunc(k.Acc, func(n int) bool { return n != min(max(n, 0), 4000000) })
		if impl.ClocksOk(s, k) != clocks {
			t.Fatal("ClocksOk is not", clocks, clocksText(k), schedLine(s))
		}
		if clocks && impl.WorldOk(s.Reg, w) && tick >= 0 && tick <= impl.MaxTick {
			right++
			timesPlain(t, s, w, k, tick)
		} else {
			wrong++
			timesRefused(t, "by chance", s, w, k, tick)
		}
		if t.Failed() {
			return
		}
	}
	if right < 400 || wrong < 1500 {
		t.Error("right:", right, "wrong:", wrong)
	}
}

// What a system has run, times its Every, and what its time has come to, are
// all ticks together, as long as no frame cuts: its own time at first is a tick
// as others are.
func TestAnyTimesAreAllTicks(t *testing.T) {
	d := dice(193)
	whole, cut := 0, 0
	for range 300 {
		s := gatedOf("every=1 every=1 every=1 every=1")
		for i := range s.Systems {
			s.Systems[i].Every = max(1, anyEvery(&d))
		}
		k := anyClocks(&d, s)
		w := anyRes(&d, s.Reg)
		ticks, ran, isCut := slices.Clone(k.Acc), make([]int, 4), make([]bool, 4)
		most := 1 + d.roll(2000)
		for range 1 + d.roll(30) {
			tick := d.roll(most)
			for i, system := range s.Systems {
				often, _ := plainDue(system.Every, k.Acc[i], tick)
				isCut[i] = isCut[i] || often > impl.MaxTimes
			}
			var list []int
			list, k = timesPlain(t, s, w, k, tick)
			for i, times := range list {
				ticks[i] += tick
				ran[i] += times
			}
		}
		for i, system := range s.Systems {
			all := ran[i]*system.Every + k.Acc[i]
			if !isCut[i] && all != ticks[i] {
				t.Fatal("run", ran[i], "times of", system.Every, "left", k.Acc[i], "of", ticks[i])
			}
			if isCut[i] && (all >= ticks[i] || (ticks[i]-all)%system.Every != 0) {
				t.Fatal("cut, run", ran[i], "times of", system.Every, "left", k.Acc[i], "of", ticks[i])
			}
			whole, cut = whole+1-yes(isCut[i]), cut+yes(isCut[i])
		}
	}
	if whole < 300 || cut < 300 {
		t.Error("whole:", whole, "cut:", cut)
	}
}

// One tick in two parts runs as often as the whole, and leaves the same time.
func TestAnyTicksInTwoParts(t *testing.T) {
	d := dice(194)
	for range 1000 {
		every := 1 + d.roll(500)
		s := gatedOf("every=1")
		s.Systems[0].Every = every
		w, k := impl.NewWorld(s.Reg), ahead(d.roll(every))
		first, second := d.roll(2*every), d.roll(2*every)
		a, half := timesPlain(t, s, w, k, first)
		b, parts := timesPlain(t, s, w, half, second)
		c, whole := timesPlain(t, s, w, k, first+second)
		if !sameClocks(parts, whole) || a[0]+b[0] != c[0] && c[0] != impl.MaxTimes {
			t.Fatal(every, first, second, a, b, c, clocksText(parts), clocksText(whole))
		}
	}
}

// Each gate is open just in its frames, told from the list of all phases.
func TestAnyPhasesOverFrames(t *testing.T) {
	d := dice(195)
	s := gatedOf("in=1 enter=1 leave=1 in=0 enter=0 leave=0 always")
	for range 300 {
		k := impl.Clocks{Acc: make([]int, 7), Phase: anyPhase(&d)}
		var phases []int
		var sums [7]int
		for now := range 12 {
			w := anyRes(&d, s.Reg)
			phases = append(phases, plainPhase(s.Reg, w))
			var list []int
			list, k = timesPlain(t, s, w, k, anyTick(&d))
			for i, times := range list {
				sums[i] += times
			}
			for i, phase := range []int{1, 0} {
				in := phases[now] == phase
				was := now > 0 && phases[now-1] == phase
				if got := list[3*i : 3*i+3]; !slices.Equal(got, []int{yes(in), yes(in && !was), yes(was && !in)}) {
					t.Fatal("phases", phases, "gates of", phase, got)
				}
				if sums[3*i+1]-sums[3*i+2] != yes(in) {
					t.Fatal("entered", sums[3*i+1], "left", sums[3*i+2], phases)
				}
			}
		}
		if sums[6] != 12 {
			t.Fatal("always ran", sums[6], "times")
		}
	}
}

// A system's times do not hang on who else stands in the schedule.
func TestAnySystemsAlone(t *testing.T) {
	d := dice(196)
	for range 600 {
		s := anyGated(&d)
		w, k, tick := anyRes(&d, s.Reg), anyClocks(&d, s), anyTick(&d)
		list, next := timesPlain(t, s, w, k, tick)
		for i := range s.Systems {
			one := turnedBy(s, func(s *impl.Sched) { s.Systems = s.Systems[i : i+1] })
			alone, nextAlone := timesPlain(t, one, w, impl.Clocks{Acc: k.Acc[i : i+1], Phase: k.Phase, Begun: k.Begun}, tick)
			if alone[0] != list[i] || nextAlone.Acc[0] != next.Acc[i] || nextAlone.Phase != next.Phase {
				t.Fatal("alone", alone, clocksText(nextAlone), "not", list[i], next.Acc[i], schedLine(s))
			}
		}
	}
}
