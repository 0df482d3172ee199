package tests

import (
	"testing"

	"loop.example/g00070/impl"
)

func TestEventConstants(t *testing.T) {
	if impl.MaxEvents != 200 || impl.MaxFirst != 1000000000000 {
		t.Error("limits", impl.MaxEvents, impl.MaxFirst)
	}
}

func TestStreamOk(t *testing.T) {
	for i, c := range rightStreams() {
		if !impl.StreamOk(c.kind, c.s) {
			t.Error("right", i, c.what, c.kind, c.s.First)
		}
	}
	for i, c := range wrongStreams() {
		if impl.StreamOk(c.kind, c.s) {
			t.Error("wrong", i, c.what, c.kind, c.s.First)
		}
	}
}

func TestSend(t *testing.T) {
	s := countedFrom(5, 2, 2)
	q := sent(t, impl.KInt, s, whole(77))
	if !sameStream(q, stream(5, numbered(5, 2), []impl.Val{whole(7), whole(8), whole(77)})) {
		t.Error("sent", q)
	}
	if !sameStream(s, countedFrom(5, 2, 2)) {
		t.Error("the argument has changed", s)
	}
	for i, c := range rightStreams() {
		for _, v := range valsOf(c.kind) {
			if len(c.s.New) == impl.MaxEvents {
				sendRefused(t, c.kind, c.s, v)
				continue
			}
			want := cloneStream(c.s)
			want.New = append(want.New, v)
			if q := sent(t, c.kind, c.s, v); !sameStream(q, want) || !impl.StreamOk(c.kind, q) {
				t.Error("sent", i, c.what, v)
			}
		}
	}
}

func TestSendUpToTheLimit(t *testing.T) {
	for _, kind := range valKinds {
		for _, first := range []int{0, impl.MaxFirst} {
			s := stream(first, filled(kind, impl.MaxEvents), nil)
			events := filled(kind, impl.MaxEvents)
			for _, v := range events {
				s = sent(t, kind, s, v)
			}
			if !sameStream(s, stream(first, events, events)) || !impl.StreamOk(kind, s) {
				t.Error("not all were sent", kind, first)
			}
			for range 2 {
				sendRefused(t, kind, s, events[0])
			}
			if s = impl.Turn(s); len(s.Old) != impl.MaxEvents {
				t.Error("turned", kind, first)
			}
			sent(t, kind, s, events[0])
		}
	}
}

func TestTurn(t *testing.T) {
	s := impl.Turn(countedFrom(5, 2, 4))
	if !sameStream(s, stream(7, numbered(7, 4), nil)) {
		t.Error("turned", s)
	}
	for i, c := range rightStreams() {
		q := impl.Turn(c.s)
		first := c.s.First + len(c.s.Old)
		if first > impl.MaxFirst {
			first = 0
		}
		if !sameStream(q, stream(first, c.s.New, nil)) || !impl.StreamOk(c.kind, q) {
			t.Error("turned", i, c.what, q.First)
		}
	}
}

func TestTurnTwice(t *testing.T) {
	for _, c := range []struct{ first, old, new int }{{0, 0, 0}, {0, 0, 3}, {0, 3, 0}, {4, 2, 5}, {9, impl.MaxEvents, impl.MaxEvents}, {impl.MaxFirst - 7, 3, 4}} {
		s := impl.Turn(impl.Turn(countedFrom(c.first, c.old, c.new)))
		if !sameStream(s, stream(c.first+c.old+c.new, nil, nil)) {
			t.Error("something is left", c, s)
		}
		for _, cursor := range []int{s.First, s.First + 1, mostInt} {
			unreadIs(t, s, cursor, nil, s.First, 0)
		}
		if again := impl.Turn(s); !sameStream(again, s) {
			t.Error("an empty stream has turned", c, again)
		}
	}
}

func TestTurnAtTheGreatestFirst(t *testing.T) {
	const most = impl.MaxFirst
	for _, c := range []struct{ first, old, want int }{
		{0, 0, 0}, {0, 1, 1}, {1, 0, 1}, {0, impl.MaxEvents, impl.MaxEvents},
		{most, 0, most}, {most, 1, 0}, {most, impl.MaxEvents, 0},
		{most - 1, 0, most - 1}, {most - 1, 1, most}, {most - 1, 2, 0},
		{most - 3, 2, most - 1}, {most - 3, 3, most}, {most - 3, 4, 0},
		{most - impl.MaxEvents, impl.MaxEvents, most}, {most - impl.MaxEvents + 1, impl.MaxEvents, 0},
		{most + 1, 0, 0}, {most + 1, 3, 0}, {2 * most, 0, 0}, {mostInt, 0, 0}, {mostInt, 1, 0}, {mostInt, impl.MaxEvents, 0},
		{-1, 0, 0}, {-1, 1, 0}, {-1, 5, 0}, {-3, 10, 0}, {-most, 1, 0}, {leastInt, 0, 0}, {leastInt, 3, 0},
	} {
		q := impl.Turn(stream(c.first, numbered(0, c.old), numbered(40, 3)))
		if !sameStream(q, stream(c.want, numbered(40, 3), nil)) {
			t.Error("turned", c, q)
		}
	}
}

func TestUnreadByHand(t *testing.T) {
	s := countedFrom(5, 3, 2)
	for _, c := range []struct{ cursor, from, n, missed int }{
		{leastInt, 5, 5, 5}, {-7, 5, 5, 5}, {-1, 5, 5, 5}, {0, 5, 5, 5}, {1, 5, 5, 4}, {3, 5, 5, 2}, {4, 5, 5, 1},
		{5, 5, 5, 0}, {6, 6, 4, 0}, {7, 7, 3, 0}, {8, 8, 2, 0}, {9, 9, 1, 0}, {10, 10, 0, 0}, {11, 11, 0, 0}, {mostInt, 0, 0, 0},
	} {
		unreadIs(t, s, c.cursor, numbered(c.from, c.n), 10, c.missed)
	}
}

func TestUnreadWithoutOldOrNew(t *testing.T) {
	none := [][]impl.Val{nil, {}}
	for _, empty := range none {
		for cursor := -2; cursor < 12; cursor++ {
			missed := max(0, 5-max(0, cursor))
			from := min(max(cursor, 5), 8)
			unreadIs(t, stream(5, empty, numbered(5, 3)), cursor, numbered(from, 8-from), 8, missed)
			unreadIs(t, stream(5, numbered(5, 3), empty), cursor, numbered(from, 8-from), 8, missed)
			for _, other := range none {
				unreadIs(t, stream(5, empty, other), cursor, nil, 5, missed)
				unreadIs(t, stream(0, empty, other), cursor, nil, 0, 0)
			}
		}
	}
}

func TestUnreadAtEveryCursor(t *testing.T) {
	for _, c := range rightStreams() {
		for _, cursor := range someCursors(c.s) {
			list, behind, missed := plainUnread(c.s, cursor)
			unreadIs(t, c.s, cursor, list, behind, missed)
		}
	}
}

func TestUnreadMissed(t *testing.T) {
	const most = impl.MaxFirst
	for _, c := range []struct{ first, cursor, missed int }{
		{0, leastInt, 0}, {0, -1, 0}, {0, 0, 0}, {0, 1, 0},
		{1, -1, 1}, {1, 0, 1}, {1, 1, 0}, {1, 2, 0},
		{most, leastInt, most}, {most, -1, most}, {most, 0, most}, {most, 1, most - 1}, {most, most - 1, 1}, {most, most, 0}, {most, mostInt, 0},
	} {
		for _, n := range []int{0, 1, impl.MaxEvents} {
			s := countedFrom(c.first, n, n)
			if _, behind, missed := impl.Unread(s, c.cursor); missed != c.missed || behind != c.first+2*n {
				t.Error("missed", c, n, missed, behind)
			}
		}
	}
}
