package tests

import (
	"testing"

	"loop.example/g00070/impl"
)

func TestStreamOkAtItsLimits(t *testing.T) {
	const most = impl.MaxEvents
	for _, kind := range valKinds {
		for _, c := range []struct {
			old, new int
			want     bool
		}{
			{0, 0, true}, {most, 0, true}, {0, most, true}, {most, most, true}, {most - 1, most, true},
			{most + 1, 0, false}, {0, most + 1, false}, {most + 1, most, false}, {most, most + 1, false}, {2 * most, 0, false},
		} {
			s := stream(0, filled(kind, c.old), filled(kind, c.new))
			if impl.StreamOk(kind, s) != c.want {
				t.Error("events", kind, c)
			}
		}
		for _, first := range rightFirsts {
			if !impl.StreamOk(kind, stream(first, filled(kind, 2), filled(kind, 2))) {
				t.Error("first", first)
			}
		}
		for _, first := range wrongFirsts {
			if impl.StreamOk(kind, stream(first, nil, nil)) {
				t.Error("first", first)
			}
		}
	}
}

func TestStreamOkFindsEveryWrongEvent(t *testing.T) {
	for _, kind := range valKinds {
		for at := range impl.MaxEvents {
			for _, v := range []impl.Val{{}, {Kind: kind, I: 2, X: 1}, {Kind: kind%4 + 1}} {
				s := stream(3, filled(kind, impl.MaxEvents), filled(kind, impl.MaxEvents))
				s.Old[at] = v
				if impl.StreamOk(kind, s) {
					t.Error("old", kind, at, v)
				}
				s = stream(3, filled(kind, impl.MaxEvents), filled(kind, impl.MaxEvents))
				s.New[at] = v
				if impl.StreamOk(kind, s) {
					t.Error("new", kind, at, v)
				}
			}
		}
	}
}

// A stream without events has none of another kind; it is right for any kind,
// but nothing can be sent to it.
func TestStreamOfNoKind(t *testing.T) {
	for _, kind := range noValKinds {
		for _, s := range []impl.Stream{{}, stream(4, []impl.Val{}, nil)} {
			if !impl.StreamOk(kind, s) {
				t.Error("without events", kind)
			}
			for _, v := range append(append(rightValues(), wrongValues()...), impl.Val{Kind: kind}, impl.Val{Kind: kind, I: 1}) {
				sendRefused(t, kind, s, v)
			}
		}
		if impl.StreamOk(kind, stream(0, []impl.Val{{Kind: kind}}, nil)) || impl.StreamOk(kind, countedFrom(0, 1, 1)) {
			t.Error("with events", kind)
		}
	}
}

func TestSendOfWrongValues(t *testing.T) {
	for _, kind := range valKinds {
		for _, s := range []impl.Stream{{}, stream(3, filled(kind, 2), filled(kind, 3)), stream(impl.MaxFirst, nil, filled(kind, impl.MaxEvents-1))} {
			for _, v := range wrongEvents(kind) {
				sendRefused(t, kind, s, v)
			}
			sent(t, kind, s, impl.Val{Kind: kind})
		}
	}
}

func TestSendToWrongStreams(t *testing.T) {
	for _, c := range wrongStreams() {
		for _, kind := range valKinds {
			sendRefused(t, c.kind, c.s, impl.Val{Kind: kind})
		}
		sendRefused(t, c.kind, c.s, impl.Val{})
		sendRefused(t, c.kind, c.s, impl.Val{Kind: c.kind})
	}
}

// Turn asks for nothing but First.
func TestTurnOfWrongStreams(t *testing.T) {
	for i, c := range wrongStreams() {
		first := c.s.First
		if first < 0 || first > impl.MaxFirst {
			first = 0
		} else {
			first += len(c.s.Old)
		}
		if q := impl.Turn(c.s); !sameStream(q, stream(first, c.s.New, nil)) {
			t.Error("turned", i, c.what, q.First)
		}
	}
	many := countedFrom(impl.MaxFirst-500, 500, 900)
	if q := impl.Turn(many); !sameStream(q, stream(impl.MaxFirst, many.New, nil)) {
		t.Error("to the greatest first", q.First)
	}
	many = countedFrom(impl.MaxFirst-500, 501, 900)
	if q := impl.Turn(many); !sameStream(q, stream(0, many.New, nil)) {
		t.Error("beyond the greatest first", q.First)
	}
}

// Unread asks for nothing but First: events that are not right, and too many
// of them, are told as they stand.
func TestUnreadOfWrongStreams(t *testing.T) {
	for _, c := range wrongStreams() {
		for _, cursor := range someCursors(c.s) {
			if c.s.First < 0 || c.s.First > impl.MaxFirst {
				unreadIs(t, c.s, cursor, nil, 0, 0)
				continue
			}
			list, behind, missed := plainUnread(c.s, cursor)
			unreadIs(t, c.s, cursor, list, behind, missed)
		}
	}
	wrong := wrongValues()
	s := stream(4, wrong, rightValues())
	unreadIs(t, s, 4+len(wrong)-1, append([]impl.Val{wrong[len(wrong)-1]}, rightValues()...), 4+len(wrong)+len(rightValues()), 0)
}

func TestUnreadWithWrongFirst(t *testing.T) {
	for _, first := range wrongFirsts {
		for _, s := range []impl.Stream{stream(first, nil, nil), stream(first, numbered(0, 3), nil), stream(first, nil, numbered(0, 3)), stream(first, filled(impl.KInt, impl.MaxEvents), filled(impl.KInt, impl.MaxEvents))} {
			for _, cursor := range []int{leastInt, -1, 0, 1, first - 1, first, first + 1, mostInt} {
				unreadIs(t, s, cursor, nil, 0, 0)
			}
		}
	}
	for _, first := range []int{0, impl.MaxFirst} {
		unreadIs(t, countedFrom(first, 1, 1), first, numbered(first, 2), first+2, 0)
	}
}
