package tests

import (
	"testing"

	"loop.example/g00070/impl"
)

// roomyStream is s with room ahead of each list and behind it, full of events
// that could be told.
func (g *guards) roomyStream(kind int, s impl.Stream) impl.Stream {
	mark := impl.Val{Kind: kind}
	return stream(s.First, guardIn(g, s.Old, mark, same), guardIn(g, s.New, mark, same))
}

func (s *stamps) stream(q impl.Stream) {
	s.vals(q.Old)
	s.vals(q.New)
}

func memoryStreams() []kindStream {
	list := rightStreams()
	for i, c := range wrongStreams() {
		if i%5 == 0 {
			list = append(list, c)
		}
	}
	return list
}

func TestEventsLeaveTheArgumentAlone(t *testing.T) {
	for _, c := range memoryStreams() {
		var g guards
		roomy := g.roomyStream(c.kind, c.s)
		s := &stamps{}
		if impl.StreamOk(c.kind, roomy) != impl.StreamOk(c.kind, c.s) {
			t.Error("spare room is looked at by StreamOk:", c.what)
		}
		for _, v := range []impl.Val{{Kind: c.kind}, {}, {Kind: c.kind, I: 5, Y: 1}} {
			plain, ok := impl.Send(c.kind, c.s, v)
			q, other := impl.Send(c.kind, roomy, v)
			if ok != other || !sameStream(q, plain) {
				t.Error("spare room is looked at by Send:", c.what)
			}
			s.stream(q)
		}
		for range 2 {
			q := impl.Turn(roomy)
			if !sameStream(q, impl.Turn(c.s)) {
				t.Error("spare room is looked at by Turn:", c.what)
			}
			s.stream(q)
		}
		for _, cursor := range someCursors(c.s) {
			plain, behind, missed := impl.Unread(c.s, cursor)
			list, next, lost := impl.Unread(roomy, cursor)
			if !sameVals(plain, list) || behind != next || missed != lost {
				t.Error("spare room is looked at by Unread:", c.what, cursor)
			}
			s.vals(list)
		}
		if !g.kept() {
			t.Error("the argument was written into, or shares memory with an answer:", c.what)
		}
		if !s.kept() {
			t.Error("two lists of answers share memory:", c.what)
		}
	}
}

// Lists of one argument may lie in one memory; an answer's may not.
func TestStreamThatSharesInTheArgument(t *testing.T) {
	events := numbered(0, 8)
	for _, c := range []impl.Stream{
		stream(0, events, events), stream(3, events[:4], events[4:]), stream(3, events[:6], events[2:]),
		stream(3, events[:0], events[:3]), stream(-1, events[4:], events[:4]),
	} {
		was := cloneStream(c)
		s := &stamps{}
		for _, v := range []impl.Val{whole(9), {}} {
			want, ok := impl.Send(impl.KInt, was, v)
			q, other := impl.Send(impl.KInt, c, v)
			if ok != other || !sameStream(q, want) || !sameStream(c, was) {
				t.Error("sent", c, v, q)
			}
			s.stream(q)
		}
		q := impl.Turn(c)
		if !sameStream(q, impl.Turn(was)) || !sameStream(c, was) {
			t.Error("turned", c, q)
		}
		s.stream(q)
		list, _, _ := impl.Unread(c, 0)
		s.vals(list)
		if !s.kept() || !sameStream(c, was) {
			t.Error("memory is shared", c, was)
		}
	}
}

// An event that is sent to an answer is not seen by one who has the stream of
// before, nor by one who has sent another event to it.
func TestStreamsGoOnApart(t *testing.T) {
	s := countedFrom(0, 2, 3)
	a, b := sent(t, impl.KInt, s, whole(70)), sent(t, impl.KInt, s, whole(80))
	c := sent(t, impl.KInt, a, whole(71))
	d := sent(t, impl.KInt, a, whole(72))
	for i, q := range []struct {
		s    impl.Stream
		want []impl.Val
	}{
		{s, numbered(2, 3)},
		{a, append(numbered(2, 3), whole(70))},
		{b, append(numbered(2, 3), whole(80))},
		{c, append(numbered(2, 3), whole(70), whole(71))},
		{d, append(numbered(2, 3), whole(70), whole(72))},
	} {
		if !sameStream(q.s, stream(0, numbered(0, 2), q.want)) {
			t.Error("stream", i, q.s)
		}
	}
}
