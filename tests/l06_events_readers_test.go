package tests

import (
	"testing"

	"loop.example/g00070/impl"
)

// diary holds all events that were ever sent by their numbers, and where each
// frame has begun: a stream told without forgetting anything.
type diary struct {
	t      *testing.T
	kind   int
	s      impl.Stream
	all    []impl.Val
	before int
	begun  int
}

func (d *diary) send(v impl.Val) {
	d.t.Helper()
	d.s = sent(d.t, d.kind, d.s, v)
	d.all = append(d.all, v)
	d.check()
}

func (d *diary) turn() {
	d.t.Helper()
	d.s = impl.Turn(d.s)
	d.before, d.begun = d.begun, len(d.all)
	d.check()
}

func (d *diary) check() {
	d.t.Helper()
	want := stream(d.before, d.all[d.before:d.begun], d.all[d.begun:])
	if !sameStream(d.s, want) || !impl.StreamOk(d.kind, d.s) {
		d.t.Fatal("the stream is not what was sent", d.s.First, d.before)
	}
}

// reader has a cursor of its own, and all that was told to it.
type reader struct {
	cursor int
	heard  []impl.Val
	missed int
}

// read asks that what it is told stands in the diary just from its cursor on,
// or from the first one that is kept.
func (r *reader) read(d *diary) {
	d.t.Helper()
	from := max(r.cursor, d.before)
	lost := from - r.cursor
	list, next, missed := impl.Unread(d.s, r.cursor)
	if !sameVals(list, d.all[from:]) || next != len(d.all) || missed != lost {
		d.t.Fatal("cursor", r.cursor, "of", len(d.all), "told", len(list), next, missed)
	}
	if again, same, none := impl.Unread(d.s, next); len(again) != 0 || same != next || none != 0 {
		d.t.Fatal("told again with the new cursor", again, same, none)
	}
	if again, _, _ := impl.Unread(d.s, r.cursor); !sameVals(again, list) {
		d.t.Fatal("not told again with the older cursor", r.cursor)
	}
	r.heard = append(r.heard, list...)
	r.missed += missed
	r.cursor = next
}

func (r *reader) hasAll(d *diary) {
	d.t.Helper()
	if !sameVals(r.heard, d.all) || r.missed != 0 {
		d.t.Error("not every event once and in order:", len(r.heard), "of", len(d.all), "missed", r.missed)
	}
}

func TestReadersOfManyFrames(t *testing.T) {
	for _, kind := range valKinds {
		roll := dice(kind)
		d := &diary{t: t, kind: kind}
		var always, early, late, third reader
		values := valsOf(kind)
		for frame := range 120 {
			early.read(d)
			for range roll.roll(7) {
				d.send(values[roll.roll(len(values))])
				always.read(d)
			}
			late.read(d)
			if frame%3 == 2 {
				third.read(d)
			}
			d.turn()
			always.read(d)
		}
		early.read(d)
		late.read(d)
		third.read(d)
		always.hasAll(d)
		early.hasAll(d)
		late.hasAll(d)
		if third.missed == 0 || third.missed+len(third.heard) != len(d.all) {
			t.Error("every third frame:", third.missed, "and", len(third.heard), "of", len(d.all))
		}
	}
}

// Reading once a frame misses nothing wherever in the frame it is done, and in
// each frame at another place.
func TestReaderOnceAFrameAnywhere(t *testing.T) {
	for place := range 6 {
		for step := range 4 {
			d := &diary{t: t, kind: impl.KInt}
			var one reader
			at := place
			for range 30 {
				for i := range 6 {
					if i == at {
						one.read(d)
					}
					d.send(whole(len(d.all)))
				}
				at = (at + step) % 6
				d.turn()
			}
			one.read(d)
			one.hasAll(d)
		}
	}
}

func TestReaderEveryThirdFrame(t *testing.T) {
	s := impl.Stream{}
	cursor, events := 0, 0
	for frame := range 12 {
		for range 4 {
			s = sent(t, impl.KInt, s, whole(events))
			events++
		}
		if frame%3 == 2 {
			list, next, missed := impl.Unread(s, cursor)
			// of three frames with 4 events each, the oldest is gone
			if !sameVals(list, numbered(events-8, 8)) || next != events || missed != 4 {
				t.Error("frame", frame, list, next, missed)
			}
			cursor = next
		}
		s = impl.Turn(s)
	}
}

func TestEventsAreKeptForTwoFrames(t *testing.T) {
	s := sent(t, impl.KPair, impl.Stream{}, pair(1, 2))
	unreadIs(t, s, 0, []impl.Val{pair(1, 2)}, 1, 0)
	s = impl.Turn(s)
	unreadIs(t, s, 0, []impl.Val{pair(1, 2)}, 1, 0)
	s = sent(t, impl.KPair, s, pair(3, 4))
	unreadIs(t, s, 0, []impl.Val{pair(1, 2), pair(3, 4)}, 2, 0)
	s = impl.Turn(s)
	unreadIs(t, s, 0, []impl.Val{pair(3, 4)}, 2, 1)
	s = impl.Turn(s)
	unreadIs(t, s, 0, nil, 2, 2)
	unreadIs(t, s, 2, nil, 2, 0)
}

// An event is told to each cursor up to its own number, and to no other one.
func TestToldTwiceWithAnOlderCursorAlone(t *testing.T) {
	s := countedFrom(20, 6, 7)
	_, behind, _ := impl.Unread(s, 0)
	for number := 20; number < behind; number++ {
		for cursor := 0; cursor <= behind+2; cursor++ {
			list, _, _ := impl.Unread(s, cursor)
			count := 0
			for _, v := range list {
				if same(v, whole(number)) {
					count++
				}
			}
			if cursor <= number && count != 1 || cursor > number && count != 0 {
				t.Error("event", number, "cursor", cursor, "told", count)
			}
		}
	}
}

// Readers with cursors of their own do not hear less for one another.
func TestReadersAreApart(t *testing.T) {
	d := &diary{t: t, kind: impl.KReal}
	readers := make([]reader, 5)
	roll := dice(9)
	for range 200 {
		for range roll.roll(5) {
			d.send(float(float64(len(d.all)) / 8))
		}
		for i := range readers {
			if roll.roll(i+1) == 0 {
				readers[i].read(d)
			}
		}
		d.turn()
	}
	for i := range readers {
		readers[i].read(d)
		if r := readers[i]; r.missed+len(r.heard) != len(d.all) {
			t.Error("reader", i, r.missed, len(r.heard), len(d.all))
		}
	}
	readers[0].hasAll(d)
}

func TestFullFrames(t *testing.T) {
	for _, kind := range valKinds {
		d := &diary{t: t, kind: kind}
		var one reader
		for range 4 {
			for _, v := range filled(kind, impl.MaxEvents) {
				d.send(v)
			}
			sendRefused(t, kind, d.s, valsOf(kind)[0])
			one.read(d)
			d.turn()
		}
		one.hasAll(d)
		if len(d.all) != 4*impl.MaxEvents {
			t.Error("events", len(d.all))
		}
	}
}
