package tests

import (
	"fmt"
	"slices"
	"strings"
	"testing"

	"loop.example/g00070/impl"
)

// gameDiffers names the fields in which two games are not the same, each asked
// by itself.
func gameDiffers(a, b impl.Game) string {
	var list []string
	for _, field := range []struct {
		name string
		same bool
	}{
		{"Ents", sameEnts(a.World.Ents, b.World.Ents)},
		{"Tables", sameWorld(impl.World{Tables: a.World.Tables}, impl.World{Tables: b.World.Tables})},
		{"Res", sameVals(a.World.Res, b.World.Res)},
		{"Streams", slices.EqualFunc(a.Streams, b.Streams, sameStream)},
		{"Cursors", slices.EqualFunc(a.Cursors, b.Cursors, slices.Equal)},
		{"Acc", slices.Equal(a.Clocks.Acc, b.Clocks.Acc)},
		{"Phase", a.Clocks.Phase == b.Clocks.Phase},
		{"Begun", a.Clocks.Begun == b.Clocks.Begun},
	} {
		if !field.same {
			list = append(list, field.name)
		}
	}
	return strings.Join(list, " ")
}

// ownText tells what is the systems' own, as "5 9 3 0: 3 | 8 9 4 1: 0": the
// cursors and the Acc of each.
func ownText(g impl.Game) string {
	if len(g.Cursors) != len(g.Clocks.Acc) {
		return fmt.Sprintf("%d lists of cursors, %d Accs", len(g.Cursors), len(g.Clocks.Acc))
	}
	var words []string
	for i, cursors := range g.Cursors {
		words = append(words, fmt.Sprintf("%s: %d", numbersText(cursors), g.Clocks.Acc[i]))
	}
	return strings.Join(words, " | ")
}

// plainChange is asked word by word as the document has it; the system of a name
// is looked for in all of them.
func plainChange(old, next impl.Sched, g impl.Game) (impl.Game, bool) {
	h := cloneGame(g)
	code, _ := plainSchedOk(next)
	if !plainGameOk(old, g) || code != impl.SchDone || fmt.Sprint(old.Reg) != fmt.Sprint(next.Reg) {
		return h, false
	}
	h.Cursors, h.Clocks.Acc = make([][]int, len(next.Systems)), make([]int, len(next.Systems))
	for i, system := range next.Systems {
		for _, one := range g.Streams {
			h.Cursors[i] = append(h.Cursors[i], one.First+len(one.Old)+len(one.New))
		}
		for j, before := range old.Systems {
			if before.Name != system.Name {
				continue
			}
			h.Cursors[i] = slices.Clone(g.Cursors[j])
			if before.Every == system.Every {
				h.Clocks.Acc[i] = g.Clocks.Acc[j]
			}
		}
	}
	return h, true
}

func changeText(old, next impl.Sched, g impl.Game) string {
	return fmt.Sprintf("%s\nfrom %s\nto %s", gameText(g), schedWhole(old), schedWhole(next))
}

// changed asks for a Change that is not refused, and for all that holds of every
// such one.
func changed(t *testing.T, old, next impl.Sched, g impl.Game) impl.Game {
	t.Helper()
	was, from, to := cloneGame(g), cloneSched(old), cloneSched(next)
	h, ok := impl.Change(old, next, g)
	if !sameGame(g, was) || schedLine(old) != schedLine(from) || schedLine(next) != schedLine(to) {
		t.Fatalf("Change has written into an argument\n%s", changeText(from, to, was))
	}
	want, wantOk := plainChange(old, next, g)
	if !ok || !wantOk {
		t.Fatalf("Change tells %v, not %v\n%s", ok, wantOk, changeText(old, next, g))
	}
	if fields := gameDiffers(h, want); fields != "" {
		t.Fatalf("Change, %s:\nhave %s\nwant %s\n%s", fields, gameText(h), gameText(want), changeText(old, next, g))
	}
	if !impl.GameOk(next, h) {
		t.Fatalf("a game that is not right behind a Change:\n%s\n%s", gameText(h), changeText(old, next, g))
	}
	newHearNothingOld(t, old, next, h)
	return h
}

// newHearNothingOld asks that to who is new all that was sent is read, and none
// of it missed; and that what is sent next is heard.
func newHearNothingOld(t *testing.T, old, next impl.Sched, h impl.Game) {
	t.Helper()
	for i, system := range next.Systems {
		if slices.ContainsFunc(old.Systems, func(one impl.Sys) bool { return one.Name == system.Name }) {
			continue
		}
		for at, cursor := range h.Cursors[i] {
			unreadIs(t, h.Streams[at], cursor, nil, cursor, 0)
			kind := next.Reg.Evts[at].Kind
			if s, ok := impl.Send(kind, h.Streams[at], impl.ValZero(kind)); ok {
				unreadIs(t, s, cursor, []impl.Val{impl.ValZero(kind)}, cursor+1, 0)
			}
		}
	}
}

// changeIs asks for what is the systems' own behind a Change, told by hand, and
// for all else as it was.
func changeIs(t *testing.T, what string, old, next impl.Sched, g impl.Game, want string) impl.Game {
	t.Helper()
	h := changed(t, old, next, g)
	if got := ownText(h); got != want {
		t.Errorf("%s: %q, not %q\n%s", what, got, want, changeText(old, next, g))
	}
	rest := cloneGame(g)
	rest.Cursors, rest.Clocks.Acc = h.Cursors, h.Clocks.Acc
	if fields := gameDiffers(h, rest); fields != "" {
		t.Errorf("%s: %s did not stay\n%s\n%s", what, fields, gameText(h), changeText(old, next, g))
	}
	return h
}

// changeRefused asks for the game handed back, whatever it is, and false.
func changeRefused(t *testing.T, what string, old, next impl.Sched, g impl.Game) {
	t.Helper()
	was := cloneGame(g)
	h, ok := impl.Change(old, next, g)
	if ok || !sameGame(h, was) || !sameGame(g, was) {
		t.Errorf("%s: Change tells %v, handed back: %q\n%s", what, ok, gameDiffers(h, was), changeText(old, next, was))
	}
	if _, wantOk := plainChange(old, next, g); wantOk {
		t.Errorf("%s: nothing is wrong\n%s", what, changeText(old, next, was))
	}
}

func beat(tick, workers int, picks ...int) impl.Beat {
	return impl.Beat{Tick: tick, Workers: workers, Picks: picks}
}

// beatsBy is one beat for each of the ticks, by workers and picks that are
// others each time.
func beatsBy(ticks ...int) []impl.Beat {
	var list []impl.Beat
	for i, tick := range ticks {
		list = append(list, beat(tick, 1+i%impl.MaxWorkers, slices.Repeat([]int{i - 2}, 3*i)...))
	}
	return list
}

func anyBeats(d *dice, most int) []impl.Beat {
	var list []impl.Beat
	for range d.roll(most + 1) {
		list = append(list, beat(anyTick(d), 1+d.roll(impl.MaxWorkers), anyPicks(d, 20)...))
	}
	return list
}

func cloneBeats(beats []impl.Beat) []impl.Beat {
	beats = slices.Clone(beats)
	for i := range beats {
		beats[i].Picks = slices.Clone(beats[i].Picks)
	}
	return beats
}

func sameBeats(a, b []impl.Beat) bool {
	return slices.EqualFunc(a, b, func(x, y impl.Beat) bool {
		return x.Tick == y.Tick && x.Workers == y.Workers && slices.Equal(x.Picks, y.Picks)
	})
}

func beatsText(beats []impl.Beat) string {
	var words []string
	for _, b := range beats[:min(len(beats), impl.MaxBeats+1)] {
		words = append(words, fmt.Sprintf("%d by %d (%d picks)", b.Tick, b.Workers, len(b.Picks)))
	}
	return fmt.Sprintf("%d beats: %s", len(beats), strings.Join(words, ", "))
}

// plainPlay calls FrameSide by hand, beat by beat, and lists the game ahead of
// each beat; what is told is found in the list.
func plainPlay(s impl.Sched, g impl.Game, beats []impl.Beat) (impl.Game, []impl.Trouble, int) {
	if len(beats) > impl.MaxBeats {
		return cloneGame(g), nil, impl.MaxBeats
	}
	games := []impl.Game{cloneGame(g)}
	var troubles []impl.Trouble
	for i, b := range beats {
		f, _, code, _ := impl.FrameSide(s, games[i], b.Tick, impl.MaxSteps, b.Workers, b.Picks)
		if code != impl.SchDone {
			return games[i], troubles, i
		}
		games, troubles = append(games, f.Game), slices.Concat(troubles, f.Troubles)
	}
	return games[len(beats)], troubles, -1
}

// plays asks for what a Play tells by FrameSide, whether it is refused or not.
func plays(t *testing.T, s impl.Sched, g impl.Game, beats []impl.Beat) (impl.Game, []impl.Trouble, int) {
	t.Helper()
	was, sched, told := cloneGame(g), cloneSched(s), cloneBeats(beats)
	h, troubles, number := impl.Play(s, g, beats)
	if !sameGame(g, was) || schedLine(s) != schedLine(sched) || !sameBeats(beats, told) {
		t.Fatalf("Play has written into an argument\n%s", schedWhole(sched))
	}
	want, wantTroubles, wantNumber := plainPlay(s, g, beats)
	if fields := gameDiffers(h, want); fields != "" || !slices.Equal(troubles, wantTroubles) || number != wantNumber {
		t.Fatalf("Play, %s: number %d, troubles %v, not %d, %v, %s:\nhave %s\nwant %s\nfrom %s\n%s", beatsText(beats), number, troubles, wantNumber, wantTroubles, fields, gameText(h), gameText(want), gameText(was), schedWhole(s))
	}
	return h, troubles, number
}

// played asks for a Play that is not refused, also by frames that are played one
// by one.
func played(t *testing.T, s impl.Sched, g impl.Game, beats []impl.Beat) (impl.Game, []impl.Trouble) {
	t.Helper()
	h, troubles, number := plays(t, s, g, beats)
	if number != -1 {
		t.Fatalf("Play, %s: refused at %d\n%s", beatsText(beats), number, schedWhole(s))
	}
	one := cloneGame(g)
	var all []impl.Trouble
	for _, b := range beats {
		f, _, _ := impl.FrameOne(s, one, b.Tick, impl.MaxSteps)
		one, all = f.Game, slices.Concat(all, f.Troubles)
	}
	if fields := gameDiffers(h, one); fields != "" || !slices.Equal(troubles, all) {
		t.Fatalf("Play, %s: troubles %v, one by one %v, %s:\nhave %s\nwant %s\n%s", beatsText(beats), troubles, all, fields, gameText(h), gameText(one), schedWhole(s))
	}
	return h, troubles
}

// playIs asks for the troubles, too, and hands the game on.
func playIs(t *testing.T, s impl.Sched, g impl.Game, beats []impl.Beat, troubles string) impl.Game {
	t.Helper()
	h, list := played(t, s, g, beats)
	if fmt.Sprint(list) != troubles {
		t.Errorf("Play, %s: troubles %v, not %s\n%s", beatsText(beats), list, troubles, schedWhole(s))
	}
	return h
}

// playStops asks for a beat that is refused, and for what the beats ahead of it
// leave and tell.
func playStops(t *testing.T, what string, s impl.Sched, g impl.Game, beats []impl.Beat, number int) (impl.Game, []impl.Trouble) {
	t.Helper()
	h, troubles, at := plays(t, s, g, beats)
	ahead, list := played(t, s, g, beats[:number])
	if fields := gameDiffers(h, ahead); at != number || fields != "" || !slices.Equal(troubles, list) {
		t.Errorf("%s: Play, %s: stops at %d, not %d, troubles %v, not %v, %s\n%s", what, beatsText(beats), at, number, troubles, list, fields, schedWhole(s))
	}
	return h, troubles
}

// playRefused asks for the game handed back, whatever it is, no troubles, and the
// number.
func playRefused(t *testing.T, what string, s impl.Sched, g impl.Game, beats []impl.Beat, number int) {
	t.Helper()
	was := cloneGame(g)
	h, troubles, at := impl.Play(s, g, beats)
	if at != number || len(troubles) != 0 || !sameGame(h, was) || !sameGame(g, was) {
		t.Errorf("%s: Play, %s: %d, not %d, troubles %v, handed back: %q\n%s", what, beatsText(beats), at, number, troubles, gameDiffers(h, was), schedWhole(s))
	}
}

// inParts asks that beats played in two parts are those played at once, wherever
// they are cut.
func inParts(t *testing.T, s impl.Sched, g impl.Game, beats []impl.Beat) {
	t.Helper()
	h, troubles, number := impl.Play(s, g, beats)
	for cut := range len(beats) + 1 {
		first, list, at := impl.Play(s, g, beats[:cut])
		if at < 0 {
			var more []impl.Trouble
			if first, more, at = impl.Play(s, first, beats[cut:]); at >= 0 {
				at += cut
			}
			list = slices.Concat(list, more)
		}
		if fields := gameDiffers(first, h); fields != "" || !slices.Equal(list, troubles) || at != number {
			t.Fatalf("%s, cut behind %d: %d, troubles %v, at once %d, %v, %s\n%s", beatsText(beats), cut, at, list, number, troubles, fields, schedWhole(s))
		}
	}
}
