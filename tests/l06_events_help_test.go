package tests

import (
	"slices"
	"testing"

	"loop.example/g00070/impl"
)

var valKinds = []int{impl.KInt, impl.KReal, impl.KPair, impl.KBool}

var noValKinds = []int{leastInt, -4, -1, 0, 5, 6, 256 + 1, mostInt}

func stream(first int, old, new []impl.Val) impl.Stream {
	return impl.Stream{First: first, Old: old, New: new}
}

// numbered holds n whole numbers, from the number from on.
func numbered(from, n int) []impl.Val {
	var list []impl.Val
	for i := range n {
		list = append(list, whole(from+i))
	}
	return list
}

// countedFrom is a stream whose events are their own numbers.
func countedFrom(first, old, new int) impl.Stream {
	return stream(first, numbered(first, old), numbered(first+old, new))
}

// valsOf holds the right values of one kind, the edges among them.
func valsOf(kind int) []impl.Val {
	var list []impl.Val
	for _, v := range rightValues() {
		if v.Kind == kind {
			list = append(list, v)
		}
	}
	return list
}

// filled holds n right values of one kind.
func filled(kind, n int) []impl.Val {
	all := valsOf(kind)
	return slices.Repeat(all, n/len(all)+1)[:n]
}

func cloneStream(s impl.Stream) impl.Stream {
	return stream(s.First, slices.Clone(s.Old), slices.Clone(s.New))
}

func sameStream(a, b impl.Stream) bool {
	return a.First == b.First && sameVals(a.Old, b.Old) && sameVals(a.New, b.New)
}

// rightFirsts holds the edges of First, and numbers between them.
var rightFirsts = []int{0, 1, 7, impl.MaxEvents, 123456789, impl.MaxFirst / 2, impl.MaxFirst - impl.MaxEvents, impl.MaxFirst - 1, impl.MaxFirst}

var wrongFirsts = []int{leastInt, leastInt + 1, -impl.MaxFirst, -impl.MaxEvents, -2, -1, impl.MaxFirst + 1, impl.MaxFirst + 2, 2 * impl.MaxFirst, mostInt - impl.MaxEvents, mostInt - 1, mostInt}

type kindStream struct {
	what string
	kind int
	s    impl.Stream
}

// rightStreams holds right streams of every kind: empty ones, such as have old
// events or new ones alone, and such as are as long as they may be.
func rightStreams() []kindStream {
	var list []kindStream
	for _, kind := range valKinds {
		for _, first := range rightFirsts {
			list = append(list,
				kindStream{"nothing", kind, stream(first, nil, nil)},
				kindStream{"empty lists", kind, stream(first, []impl.Val{}, []impl.Val{})},
				kindStream{"no new ones", kind, stream(first, valsOf(kind), nil)},
				kindStream{"no old ones", kind, stream(first, []impl.Val{}, valsOf(kind))},
				kindStream{"both", kind, stream(first, filled(kind, 3), filled(kind, 5)[1:])},
				kindStream{"old ones full", kind, stream(first, filled(kind, impl.MaxEvents), filled(kind, 2))},
				kindStream{"new ones full", kind, stream(first, filled(kind, 2), filled(kind, impl.MaxEvents))},
				kindStream{"both full", kind, stream(first, filled(kind, impl.MaxEvents), filled(kind, impl.MaxEvents))},
			)
		}
	}
	return list
}

// wrongEvents holds values that are no right ones of that kind.
func wrongEvents(kind int) []impl.Val {
	list := wrongValues()
	for _, v := range rightValues() {
		if v.Kind != kind {
			list = append(list, v)
		}
	}
	return list
}

// wrongStreams holds streams each of which breaks one rule of StreamOk.
func wrongStreams() []kindStream {
	var list []kindStream
	for _, kind := range valKinds {
		for _, first := range wrongFirsts {
			list = append(list,
				kindStream{"first", kind, stream(first, nil, nil)},
				kindStream{"first", kind, stream(first, filled(kind, 3), filled(kind, 4))},
			)
		}
		for _, n := range []int{impl.MaxEvents + 1, impl.MaxEvents + 2, 3 * impl.MaxEvents} {
			list = append(list,
				kindStream{"too many old ones", kind, stream(0, filled(kind, n), nil)},
				kindStream{"too many old ones", kind, stream(7, filled(kind, n), filled(kind, 3))},
				kindStream{"too many new ones", kind, stream(0, nil, filled(kind, n))},
				kindStream{"too many new ones", kind, stream(7, filled(kind, 3), filled(kind, n))},
			)
		}
		for i, v := range wrongEvents(kind) {
			at := i % 4
			some := filled(kind, 3)
			list = append(list,
				kindStream{"an old one", kind, stream(i, slices.Insert(slices.Clone(some), at, v), some)},
				kindStream{"a new one", kind, stream(i, some, slices.Insert(slices.Clone(some), at, v))},
			)
		}
	}
	for _, kind := range noValKinds {
		list = append(list,
			kindStream{"no kind", kind, stream(0, []impl.Val{{Kind: kind}}, nil)},
			kindStream{"no kind", kind, stream(3, nil, []impl.Val{{Kind: kind, I: 1}})},
			kindStream{"no kind", kind, stream(0, numbered(0, 2), numbered(0, 2))},
		)
	}
	return list
}

// someCursors holds cursors about every number that a stream names.
func someCursors(s impl.Stream) []int {
	list := []int{leastInt, leastInt + 1, -impl.MaxFirst, -impl.MaxEvents, -1, 0, 1, 2, impl.MaxFirst, impl.MaxFirst + 1, mostInt - 1, mostInt}
	for _, at := range []int{0, len(s.Old), len(s.Old) + len(s.New)} {
		for step := -3; step <= 3; step++ {
			list = append(list, s.First+at+step)
		}
	}
	return list
}

// plainUnread tells Unread of a stream whose First is right in another way:
// by cutting, not by counting.
func plainUnread(s impl.Stream, cursor int) ([]impl.Val, int, int) {
	all := slices.Concat(s.Old, s.New)
	behind := s.First + len(all)
	switch {
	case cursor <= s.First:
		return all, behind, s.First - max(cursor, 0)
	case cursor >= behind:
		return nil, behind, 0
	}
	return all[cursor-s.First:], behind, 0
}

func unreadIs(t *testing.T, s impl.Stream, cursor int, list []impl.Val, behind, missed int) {
	t.Helper()
	got, next, lost := impl.Unread(s, cursor)
	if !sameVals(got, list) || next != behind || lost != missed {
		t.Error("stream from", s.First, len(s.Old), len(s.New), "cursor", cursor, "got", got, next, lost, "want", list, behind, missed)
	}
}

func sent(t *testing.T, kind int, s impl.Stream, v impl.Val) impl.Stream {
	t.Helper()
	q, ok := impl.Send(kind, s, v)
	if !ok {
		t.Fatal("not sent", v)
	}
	return q
}

func sendRefused(t *testing.T, kind int, s impl.Stream, v impl.Val) {
	t.Helper()
	if q, ok := impl.Send(kind, s, v); ok || !sameStream(q, s) {
		t.Error("sent, or another stream", kind, v, ok)
	}
}
