package tests

import "slices"

// guard is a list that is handed in as an argument: it has room ahead of it
// and behind it, and tells whether anything of all that was written into.
type guard[T any] struct {
	whole []T
	was   []T
	n     int
	alike func(a, b T) bool
}

const guardRoom = 5

func guarded[T comparable](list []T, mark T) *guard[T] {
	return guardedBy(list, mark, func(a, b T) bool { return a == b })
}

func guardedBy[T any](list []T, mark T, alike func(a, b T) bool) *guard[T] {
	whole := make([]T, 0, len(list)+2*guardRoom)
	whole = append(whole, slices.Repeat([]T{mark}, guardRoom)...)
	whole = append(whole, list...)
	whole = append(whole, slices.Repeat([]T{mark}, guardRoom)...)
	return &guard[T]{whole: whole, was: slices.Clone(whole), n: len(list), alike: alike}
}

func (g *guard[T]) list() []T { return g.whole[guardRoom : guardRoom+g.n] }

func (g *guard[T]) kept() bool { return slices.EqualFunc(g.whole, g.was, g.alike) }

// scribble writes over all of a list's memory, its spare room too, so that
// whoever shares some of it is found out.
func scribble[T any](list []T, mark T) {
	list = list[:cap(list)]
	for i := range list {
		list[i] = mark
	}
}

// dice is a row of numbers that is the same in every run.
type dice uint64

func (d *dice) roll(n int) int {
	*d = *d*6364136223846793005 + 1442695040888963407
	return int(uint64(*d)>>33) % n
}
