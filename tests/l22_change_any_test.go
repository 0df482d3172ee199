package tests

import (
	"slices"
	"strings"
	"testing"

	"loop.example/g00070/impl"
)

// anyNext is a right schedule behind another one, of the same Reg: that one with
// some of its systems gone, some others come, all in any order, with other
// Everys and gates and, at times, with a text in which nobody does anything.
func anyNext(w *author, old impl.Sched) impl.Sched {
	d := &w.dice
	if d.roll(4) == 0 {
		return anySideShow(w)
	}
	s := cloneSched(old)
	s.Rules = nil
	if d.roll(3) == 0 {
		s.Text = "fn idle() int { return 0; }\n"
		for _, system := range s.Systems {
			s.Text += "system " + system.Name + " { }\n"
		}
	}
	s.Systems = slices.DeleteFunc(w.systemsIn(s.Systems), func(impl.Sys) bool { return d.roll(5) == 0 })
	for i := range s.Systems {
		if d.roll(3) == 0 {
			s.Systems[i] = impl.Sys{Name: s.Systems[i].Name}
			anyGate(d, &s.Systems[i])
		}
	}
	for _, name := range []string{"new", "newer", "newest"}[:d.roll(4)] {
		if !strings.Contains(s.Text, "system "+name+" ") {
			s.Text += "system " + name + " { hear Hit as h { $Score = $Score + h; } emit Burn 0.5; }\n"
		}
		stands := slices.ContainsFunc(s.Systems, func(system impl.Sys) bool { return system.Name == name })
		if !stands && len(s.Systems) < impl.MaxSys {
			s.Systems = slices.Insert(s.Systems, d.roll(len(s.Systems)+1), impl.Sys{Name: name, Every: d.roll(3)})
		}
	}
	if len(s.Text) > impl.MaxText {
		return anyNext(w, old)
	}
	return s
}

// systemsIn is the same systems in any order.
func (w *author) systemsIn(list []impl.Sys) []impl.Sys {
	var names []string
	for _, system := range list {
		names = append(names, system.Name)
	}
	var turned []impl.Sys
	for _, name := range w.shuffled(names) {
		at := slices.IndexFunc(list, func(system impl.Sys) bool { return system.Name == name })
		turned = append(turned, list[at])
	}
	return turned
}

func TestAnyChanges(t *testing.T) {
	w := newAuthor(242)
	stays, comes, goes, cleared, kept := 0, 0, 0, 0, 0
	for range 700 {
		old := anySideShow(w)
		next := anyNext(w, old)
		g := anyGame(&w.dice, old)
		h := changed(t, old, next, g)
		if same := changed(t, old, old, g); !sameGame(same, g) {
			t.Fatalf("changed for itself:\n%s\n%s", gameText(same), changeText(old, old, g))
		}
		here := 0
		for i, system := range next.Systems {
			at := slices.IndexFunc(old.Systems, func(one impl.Sys) bool { return one.Name == system.Name })
			if at < 0 {
				comes++
				continue
			}
			here++
			cleared += yes(h.Clocks.Acc[i] != g.Clocks.Acc[at])
			kept += yes(h.Clocks.Acc[i] > 0)
		}
		stays, goes = stays+here, goes+len(old.Systems)-here
	}
	if stays < 1000 || comes < 500 || goes < 500 || cleared < 100 || kept < 300 {
		t.Error("hardly any:", stays, comes, goes, cleared, kept)
	}
}

// There and back: who stood in both has what it had, and an Acc that was not
// cleared; all others are new.
func TestAnyChangesThereAndBack(t *testing.T) {
	w := newAuthor(243)
	whole := 0
	for range 300 {
		old := anySideShow(w)
		next := anyNext(w, old)
		g := anyGame(&w.dice, old)
		back := changed(t, next, old, changed(t, old, next, g))
		all := true
		for i, system := range old.Systems {
			at := slices.IndexFunc(next.Systems, func(one impl.Sys) bool { return one.Name == system.Name })
			if at >= 0 && !slices.Equal(back.Cursors[i], g.Cursors[i]) {
				t.Fatalf("cursors of %s\n%s\n%s", system.Name, gameText(back), changeText(old, next, g))
			}
			want := 0
			if at >= 0 && next.Systems[at].Every == system.Every {
				want = g.Clocks.Acc[i]
			}
			if back.Clocks.Acc[i] != want {
				t.Fatalf("the Acc of %s\n%s\n%s", system.Name, gameText(back), changeText(old, next, g))
			}
			all = all && at >= 0 && next.Systems[at].Every == system.Every
		}
		if whole += yes(all && len(old.Systems) > 0); all && !sameGame(back, g) {
			t.Fatalf("%s\n%s", gameText(back), changeText(old, next, g))
		}
	}
	if whole < 10 {
		t.Error("hardly any:", whole)
	}
}

// Nobody minds where the others stand: the next schedule in another order gives
// the same to each of its names.
func TestAnyChangesInAnotherOrder(t *testing.T) {
	w := newAuthor(244)
	for range 200 {
		old := anySideShow(w)
		next := anyNext(w, old)
		turned := turnedBy(next, func(s *impl.Sched) { s.Systems = w.systemsIn(s.Systems) })
		g := anyGame(&w.dice, old)
		one, other := changed(t, old, next, g), changed(t, old, turned, g)
		for i, system := range next.Systems {
			at := slices.IndexFunc(turned.Systems, func(one impl.Sys) bool { return one.Name == system.Name })
			if !slices.Equal(one.Cursors[i], other.Cursors[at]) || one.Clocks.Acc[i] != other.Clocks.Acc[at] {
				t.Fatalf("%s\n%s\n%s", gameText(one), gameText(other), changeText(old, next, g))
			}
		}
	}
}

// One thing turned, or several: right or refused, as the plain answer has it.
func TestAnyMarredChanges(t *testing.T) {
	w := newAuthor(245)
	d := &w.dice
	met := map[string]int{}
	for i := range 1500 {
		old := anySideShow(w)
		next := cloneSched(anyNext(w, old))
		g := anyGame(d, old)
		why := ""
		if i%3 == 0 {
			oneOf(d, regTurns()).turn(&next.Reg)
			why += "Reg "
		}
		if i%4 == 0 {
			marGame(d, &g)
			why += "game "
		}
		if i%5 == 0 {
			oneOf(d, schedFaults)(d, &next)
			why += "next "
		}
		if i%7 == 0 {
			old = cloneSched(old)
			oneOf(d, schedFaults)(d, &old)
			why += "old "
		}
		if _, ok := plainChange(old, next, g); ok {
			met["right"]++
			changed(t, old, next, g)
		} else {
			met[why]++
			changeRefused(t, "by chance", old, next, g)
		}
		if t.Failed() {
			return
		}
	}
	if met["right"] < 300 || met["game "] < 50 || met["next "] < 30 || met["old "] < 20 || met["Reg "] < 100 {
		t.Error("hardly any:", met)
	}
}

func TestAnyPlays(t *testing.T) {
	w := newAuthor(246)
	d := &w.dice
	faults, frames := 0, 0
	for range 120 {
		s := anySideShow(w)
		g := anyGame(d, s)
		beats := anyBeats(d, 7)
		h, troubles := played(t, s, g, beats)
		if !impl.GameOk(s, h) {
			t.Fatal(gameText(h), schedWhole(s))
		}
		inParts(t, s, g, beats)
		faults, frames = faults+len(troubles), frames+len(beats)
	}
	if faults < 200 || frames < 300 {
		t.Error("hardly any:", faults, frames)
	}
}

// Beats of which some are refused, games and schedules that are not right.
func TestAnyMarredPlays(t *testing.T) {
	w := newAuthor(247)
	d := &w.dice
	met := map[int]int{}
	for i := range 200 {
		s := anySideShow(w)
		g := anyGame(d, s)
		beats := anyBeats(d, 6)
		if i%8 == 0 {
			s = cloneSched(s)
			oneOf(d, schedFaults)(d, &s)
		}
		if i%6 == 1 {
			marGame(d, &g)
		}
		for at := range beats {
			switch d.roll(12) {
			case 0:
				beats[at].Workers = oneOf(d, []int{0, -1, impl.MaxWorkers + 1, leastInt, mostInt})
			case 1:
				beats[at].Tick = oneOf(d, []int{-1, impl.MaxTick + 1, leastInt, mostInt})
			case 2:
				beats[at].Picks = make([]int, impl.MaxPicks+d.roll(2))
			}
		}
		_, _, number := plays(t, s, g, beats)
		met[number]++
		inParts(t, s, g, beats)
	}
	if met[-1] < 40 || met[0] < 30 || met[1] < 10 || met[3] < 3 {
		t.Error("hardly any:", met)
	}
}

// A game that is played, changed and played on, many times: it is right all the
// while, and who is new has nothing that was sent ahead of it.
func TestAnyGamesPlayedAndChanged(t *testing.T) {
	w := newAuthor(248)
	d := &w.dice
	for range 25 {
		s := anySideShow(w)
		g := newGame(t, s)
		for range 6 {
			g, _ = played(t, s, g, beatsBy(d.roll(20), d.roll(20), d.roll(20))[:d.roll(4)])
			next := anyNext(w, s)
			g, s = changed(t, s, next, g), next
		}
	}
}

// listener hears all of a stream into the resource Home: how many, and their sum.
const listener = "hear Hit as h { $Home = $Home + pair(real(h), 1.0); }"

// Who is new hears each event that is sent from then on once, and none that was
// sent ahead: both are counted by the numbers that events have.
func TestAnyoneNewHearsAllThatComes(t *testing.T) {
	d := dice(249)
	heard := 0
	for range 60 {
		sends := "a every=3: loop 1 + $Score % 4 { $Score = $Score + 1; emit Hit $Score; }"
		old := staged("", sends, "b: $Wind = 1.0;")
		next := staged("a>new", "new: "+listener, "c: hear Hit as h { }", sends)
		next.Text = strings.ReplaceAll(next.Text, "system c", "system b { $Wind = 2.0; } system c")
		g := newGame(t, old)
		g, _ = played(t, old, g, beatsBy(d.roll(9), d.roll(9), d.roll(9), d.roll(9))[:d.roll(5)])
		if d.roll(2) == 0 {
			g, _, _ = impl.Task(old, g, 0, d.roll(impl.MaxTimes+1), 100)
		}
		first := g.World.Res[0].I
		h, _ := played(t, next, changed(t, old, next, g), beatsBy(d.roll(9), d.roll(9), d.roll(9), d.roll(9))[:d.roll(5)])
		sum := 0
		for n := first + 1; n <= h.World.Res[0].I; n++ {
			sum += n
		}
		heard += sum
		if want := pair(float64(sum), float64(h.World.Res[0].I-first)); !same(h.World.Res[2], want) {
			t.Fatalf("events %d to %d: %v, not %v\n%s", first+1, h.World.Res[0].I, h.World.Res[2], want, gameText(h))
		}
	}
	if heard < 1000 {
		t.Error("hardly any:", heard)
	}
}
