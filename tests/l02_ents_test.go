package tests

import (
	"slices"
	"testing"

	"loop.example/g00070/impl"
)

func ents(gens []int, free ...int) impl.Ents { return impl.Ents{Gens: gens, Free: free} }

func ent(at, gen int) impl.Ent { return impl.Ent{At: at, Gen: gen} }

// upTo holds the numbers 0 .. n-1.
func upTo(n int) []int {
	list := make([]int, n)
	for i := range list {
		list[i] = i
	}
	return list
}

func sameEnts(a, b impl.Ents) bool {
	return slices.Equal(a.Gens, b.Gens) && slices.Equal(a.Free, b.Free)
}

// rightEnts holds things from none to as many as there can be.
func rightEnts() []impl.Ents {
	full := make([]int, impl.MaxEnts)
	old := slices.Repeat([]int{impl.MaxGen}, impl.MaxEnts)
	return []impl.Ents{
		{},
		{Gens: []int{}, Free: []int{}},
		ents([]int{0}),
		ents([]int{0}, 0),
		ents([]int{impl.MaxGen}),
		ents([]int{impl.MaxGen}, 0),
		ents([]int{3, 1, 4, 1, 5, 9, 2, 6}, 6, 0, 3),
		ents([]int{3, 1, 4, 1, 5, 9, 2, 6}, 7),
		ents([]int{2, 7, impl.MaxGen, impl.MaxGen - 1, 0}, 4, 3, 2, 1, 0),
		ents(upTo(130), 63, 64, 65, 127, 128, 129, 0, 1),
		ents(upTo(impl.MaxEnts - 1)),
		ents(upTo(impl.MaxEnts-1), impl.MaxEnts-2, 0),
		ents(full),
		ents(old, impl.MaxEnts-1),
		ents(upTo(impl.MaxEnts), 5, 1999, 0, 64),
		ents(full, upTo(impl.MaxEnts)...),
	}
}

// wrongEnts holds things each of which breaks one rule of EntsOk.
func wrongEnts() []impl.Ents {
	return []impl.Ents{
		ents([]int{-1}),
		ents([]int{0, 2, -1}, 1),
		ents([]int{leastInt}),
		ents([]int{impl.MaxGen + 1}),
		ents([]int{5, impl.MaxGen + 1, 5}, 2),
		ents([]int{mostInt, 0}),
		ents(nil, 0),
		ents([]int{0, 1}, 2),
		ents([]int{0, 1}, 0, 64),
		ents([]int{0, 1}, impl.MaxEnts),
		ents([]int{0, 1}, mostInt),
		ents([]int{0, 1}, -1),
		ents([]int{0, 1}, 1, leastInt),
		ents([]int{0, 1}, 0, 0),
		ents([]int{0, 1, 2}, 2, 0, 1, 2),
		ents(upTo(100), 64, 70, 65, 64),
		ents(make([]int, impl.MaxEnts+1)),
		ents(make([]int, impl.MaxEnts+1), 0),
		ents(make([]int, impl.MaxEnts+70), impl.MaxEnts+69),
		ents(make([]int, impl.MaxEnts), append(upTo(impl.MaxEnts), 0)...),
		ents(make([]int, impl.MaxEnts), impl.MaxEnts),
	}
}

// strangers holds things that are nowhere live in p: below, behind, free, of
// another generation.
func strangers(p impl.Ents) []impl.Ent {
	list := []impl.Ent{ent(-1, 0), ent(leastInt, 0), ent(mostInt, 0), ent(len(p.Gens), 0), ent(len(p.Gens)+64, 0)}
	for _, at := range p.Free {
		list = append(list, ent(at, p.Gens[at]), ent(at, p.Gens[at]-1))
	}
	for at, gen := range p.Gens {
		if at < 70 || at > impl.MaxEnts-5 {
			list = append(list, ent(at, gen+1), ent(at, gen-1), ent(at, -1), ent(at, gen^leastInt))
		}
	}
	return list
}

// liveOnes is EntList by a slow and plain way.
func liveOnes(p impl.Ents) []impl.Ent {
	var list []impl.Ent
	for at, gen := range p.Gens {
		if !slices.Contains(p.Free, at) {
			list = append(list, ent(at, gen))
		}
	}
	return list
}

func TestThingConstants(t *testing.T) {
	got := []int{impl.MaxEnts, impl.MaxGen, impl.EntDone, impl.EntBad, impl.EntDead, impl.EntFull}
	if want := []int{2000, 1000000, 0, 1, 2, 3}; !slices.Equal(got, want) {
		t.Error(got, want)
	}
}

func TestEntsOk(t *testing.T) {
	for i, p := range rightEnts() {
		if !impl.EntsOk(p) {
			t.Error("right", i)
		}
	}
	for i, p := range wrongEnts() {
		if impl.EntsOk(p) {
			t.Error("wrong", i)
		}
	}
}

// Each place, held against each other one, is once a place that stands twice.
func TestEntsOkFindsEveryTwin(t *testing.T) {
	free := upTo(impl.MaxEnts)
	p := impl.Ents{Gens: make([]int, impl.MaxEnts), Free: free}
	for i := range free {
		j := (i*7 + 3) % len(free)
		was := free[j]
		free[j] = i
		if ok := impl.EntsOk(p); ok != (i == was) {
			t.Fatal("twin of", i, "at", j, ok)
		}
		free[j] = was
	}
	for n := range 140 {
		if !impl.EntsOk(ents(make([]int, n), upTo(n)...)) || impl.EntsOk(ents(make([]int, n), upTo(n+1)...)) {
			t.Error("places", n)
		}
	}
}

func TestEntLive(t *testing.T) {
	for i, p := range rightEnts() {
		for _, e := range liveOnes(p) {
			if !impl.EntLive(p, e) {
				t.Error("live", i, e)
			}
		}
		for _, e := range strangers(p) {
			if impl.EntLive(p, e) {
				t.Error("not live", i, e)
			}
		}
	}
	for i, p := range wrongEnts() {
		for _, e := range []impl.Ent{ent(0, 0), ent(1, 1), ent(0, 5), ent(impl.MaxEnts, 0), ent(-1, 0)} {
			if impl.EntLive(p, e) {
				t.Error("live in what is wrong", i, e)
			}
		}
	}
}

func TestEntTake(t *testing.T) {
	eight := []int{3, 1, 4, 1, 5, 9, 2, 6}
	some := upTo(impl.MaxEnts)
	cases := []struct {
		p, want impl.Ents
		e       impl.Ent
		code    int
	}{
		{impl.Ents{}, ents([]int{0}), ent(0, 0), impl.EntDone},
		{ents([]int{}), ents([]int{0}), ent(0, 0), impl.EntDone},
		{ents([]int{7}), ents([]int{7, 0}), ent(1, 0), impl.EntDone},
		{ents([]int{7}, 0), ents([]int{7}), ent(0, 7), impl.EntDone},
		{ents(eight, 6, 0, 3), ents(eight, 6, 0), ent(3, 1), impl.EntDone},
		{ents(eight, 6, 0), ents(eight, 6), ent(0, 3), impl.EntDone},
		{ents([]int{impl.MaxGen}, 0), ents([]int{impl.MaxGen}), ent(0, impl.MaxGen), impl.EntDone},
		{ents(some[:impl.MaxEnts-1]), ents(append(upTo(impl.MaxEnts-1), 0)), ent(impl.MaxEnts-1, 0), impl.EntDone},
		{ents(some, 1999), ents(some), ent(1999, 1999), impl.EntDone},
		{ents(some, 5, 64), ents(some, 5), ent(64, 64), impl.EntDone},
		{ents(some), ents(some), ent(0, 0), impl.EntFull},
	}
	for _, p := range wrongEnts() {
		cases = append(cases, struct {
			p, want impl.Ents
			e       impl.Ent
			code    int
		}{p, p, ent(0, 0), impl.EntBad})
	}
	for i, c := range cases {
		q, e, code := impl.EntTake(c.p)
		if code != c.code || e != c.e || !sameEnts(q, c.want) {
			t.Error("take", i, e, code)
		}
	}
}

func TestEntGive(t *testing.T) {
	cases := []struct {
		p    impl.Ents
		e    impl.Ent
		want impl.Ents
	}{
		{ents([]int{0}), ent(0, 0), ents([]int{1}, 0)},
		{ents([]int{8, 9}), ent(1, 9), ents([]int{8, 10}, 1)},
		{ents([]int{8, 9, 5}, 1), ent(0, 8), ents([]int{9, 9, 5}, 1, 0)},
		{ents([]int{8, 9, 5}, 1, 0), ent(2, 5), ents([]int{8, 9, 6}, 1, 0, 2)},
		{ents([]int{impl.MaxGen - 1}), ent(0, impl.MaxGen-1), ents([]int{impl.MaxGen}, 0)},
		{ents([]int{impl.MaxGen}), ent(0, impl.MaxGen), ents([]int{0}, 0)},
		{ents([]int{4, impl.MaxGen, 4}, 0), ent(1, impl.MaxGen), ents([]int{4, 0, 4}, 0, 1)},
		{ents(upTo(impl.MaxEnts)), ent(1999, 1999), ents(append(upTo(1999), 2000), 1999)},
	}
	for i, c := range cases {
		q, code := impl.EntGive(c.p, c.e)
		if code != impl.EntDone || !sameEnts(q, c.want) {
			t.Error("give", i, q, code)
		}
	}
	for i, p := range rightEnts() {
		for _, e := range strangers(p) {
			if q, code := impl.EntGive(p, e); code != impl.EntDead || !sameEnts(q, p) {
				t.Error("dead", i, e, code)
			}
		}
	}
	for i, p := range wrongEnts() {
		for _, e := range []impl.Ent{ent(0, 0), ent(1, 1), ent(-1, 0), ent(mostInt, 0)} {
			if q, code := impl.EntGive(p, e); code != impl.EntBad || !sameEnts(q, p) {
				t.Error("bad", i, e, code)
			}
		}
	}
}

// takenInARow is EntAhead by EntTake.
func takenInARow(p impl.Ents, n int) ([]impl.Ent, bool) {
	var list []impl.Ent
	for range n {
		q, e, code := impl.EntTake(p)
		if code != impl.EntDone {
			return nil, false
		}
		p, list = q, append(list, e)
	}
	return list, true
}

func TestEntAheadTellsWhatIsTaken(t *testing.T) {
	for i, p := range rightEnts() {
		room := len(p.Free) + impl.MaxEnts - len(p.Gens)
		for _, n := range []int{0, 1, 2, len(p.Free) - 1, len(p.Free), len(p.Free) + 1, len(p.Free) + 3, room - 1, room, room + 1} {
			if n < 0 {
				continue
			}
			got, ok := impl.EntAhead(p, n)
			want, wantOk := takenInARow(p, n)
			if ok != wantOk || !slices.Equal(got, want) {
				t.Error("ahead", i, n, ok, wantOk)
			}
			if ok != (n <= room) || ok && len(got) != n {
				t.Error("as many as there can be", i, n, ok)
			}
		}
		for _, n := range []int{-1, -2, leastInt, mostInt, impl.MaxEnts + len(p.Free) + 1} {
			if got, ok := impl.EntAhead(p, n); ok || len(got) != 0 {
				t.Error("no such number", i, n)
			}
		}
	}
	for i, p := range wrongEnts() {
		for _, n := range []int{0, 1, -1, mostInt} {
			if got, ok := impl.EntAhead(p, n); ok || len(got) != 0 {
				t.Error("wrong", i, n)
			}
		}
	}
}

func TestEntAheadByHand(t *testing.T) {
	p := ents([]int{3, 1, 4, 1, 5, 9, 2, 6}, 6, 0, 3)
	want := []impl.Ent{ent(3, 1), ent(0, 3), ent(6, 2), ent(8, 0), ent(9, 0)}
	for n := range len(want) + 1 {
		if got, ok := impl.EntAhead(p, n); !ok || !slices.Equal(got, want[:n]) {
			t.Error("ahead", n, got, ok)
		}
	}
}

func TestEntList(t *testing.T) {
	p := ents([]int{3, 1, 4, 1, 5, 9, 2, 6}, 6, 0, 3)
	if got := impl.EntList(p); !slices.Equal(got, []impl.Ent{ent(1, 1), ent(2, 4), ent(4, 5), ent(5, 9), ent(7, 6)}) {
		t.Error("some live, some free", got)
	}
	for i, p := range rightEnts() {
		if got := impl.EntList(p); !slices.Equal(got, liveOnes(p)) {
			t.Error("list", i, got)
		}
	}
	for i, p := range wrongEnts() {
		if got := impl.EntList(p); len(got) != 0 {
			t.Error("list of what is wrong", i, got)
		}
	}
}

// Places are given back in one order and come again in the other one.
func TestPlaceGivenLastIsTakenFirst(t *testing.T) {
	p := impl.Ents{}
	var all []impl.Ent
	for range 70 {
		q, e, _ := impl.EntTake(p)
		p, all = q, append(all, e)
	}
	order := []int{5, 69, 0, 64, 63, 1}
	for _, i := range order {
		p, _ = impl.EntGive(p, all[i])
	}
	for i := range order {
		want := all[order[len(order)-1-i]]
		want.Gen++
		q, e, code := impl.EntTake(p)
		if code != impl.EntDone || e != want {
			t.Error("again", i, e, code, want)
		}
		p = q
	}
	if _, e, _ := impl.EntTake(p); e != ent(70, 0) {
		t.Error("behind the others", e)
	}
}

// A long row of takings and givings is held against a plain record of who
// lives, which knows nothing of places that are free.
func TestThingsLiveAsTheRecordTells(t *testing.T) {
	for seed := range 6 {
		d := dice(seed)
		p := ents([]int{impl.MaxGen, impl.MaxGen - 1, impl.MaxGen, 0}, 3)
		live := liveOnes(p)
		var dead []impl.Ent
		for step := range 900 {
			if d.roll(7) < 4 || len(live) == 0 {
				q, e, code := impl.EntTake(p)
				ahead, ok := impl.EntAhead(p, 1)
				if code != impl.EntDone || !ok || ahead[0] != e {
					t.Fatal("take", seed, step, e, code, ahead)
				}
				for _, other := range live {
					if other.At == e.At {
						t.Fatal("one place for two", seed, step, e, other)
					}
				}
				p, live = q, append(live, e)
			} else {
				i := d.roll(len(live))
				e := live[i]
				q, code := impl.EntGive(p, e)
				if code != impl.EntDone || impl.EntLive(q, e) {
					t.Fatal("give", seed, step, e, code)
				}
				if _, next, _ := impl.EntTake(q); next.At != e.At || next.Gen == e.Gen {
					t.Fatal("its place comes again", seed, step, e, next)
				}
				p, live, dead = q, slices.Delete(live, i, i+1), append(dead, e)
			}
			checkRecord(t, p, live, dead)
		}
	}
}

func checkRecord(t *testing.T, p impl.Ents, live, dead []impl.Ent) {
	t.Helper()
	sorted := slices.Clone(live)
	slices.SortFunc(sorted, func(a, b impl.Ent) int { return a.At - b.At })
	if !impl.EntsOk(p) || !slices.Equal(impl.EntList(p), sorted) {
		t.Fatal("right things", p, sorted)
	}
	for _, e := range live[max(0, len(live)-20):] {
		if !impl.EntLive(p, e) {
			t.Fatal("live", e)
		}
	}
	for _, e := range dead[max(0, len(dead)-20):] {
		if impl.EntLive(p, e) {
			t.Fatal("given back and live", e)
		}
	}
}

// To the last place, and back: full once all places are live.
func TestThingsUpToTheLastPlace(t *testing.T) {
	p := ents(upTo(impl.MaxEnts-3), 0, 9)
	for i, want := range []impl.Ent{ent(9, 9), ent(0, 0), ent(1997, 0), ent(1998, 0), ent(1999, 0)} {
		q, e, code := impl.EntTake(p)
		if code != impl.EntDone || e != want {
			t.Fatal("take", i, e, code)
		}
		p = q
	}
	q, e, code := impl.EntTake(p)
	if code != impl.EntFull || e != ent(0, 0) || !sameEnts(p, q) || !impl.EntsOk(q) {
		t.Error("full", e, code)
	}
	p, _ = impl.EntGive(p, ent(1998, 0))
	if _, e, code = impl.EntTake(p); code != impl.EntDone || e != ent(1998, 1) {
		t.Error("one has room again", e, code)
	}
}

// entCalls does every call of the chapter at p, and scribbles over what they
// answer, for the caller to see whether p shares memory with it.
func entCalls(t *testing.T, p impl.Ents) {
	t.Helper()
	const mark = -77
	alone := func(q impl.Ents) {
		t.Helper()
		gens := slices.Clone(q.Gens)
		scribble(q.Free, mark)
		if !slices.Equal(gens, q.Gens) {
			t.Error("two lists of one answer share memory")
		}
		scribble(q.Gens, mark)
	}
	impl.EntsOk(p)
	q, _, _ := impl.EntTake(p)
	alone(q)
	for at := -1; at < min(len(p.Gens)+1, 12); at++ {
		e := ent(at, 0)
		if at >= 0 && at < len(p.Gens) {
			e.Gen = p.Gens[at]
		}
		impl.EntLive(p, e)
		q, _ := impl.EntGive(p, e)
		alone(q)
	}
	for _, n := range []int{-1, 0, 1, 3, impl.MaxEnts} {
		list, _ := impl.EntAhead(p, n)
		scribble(list, ent(mark, mark))
	}
	scribble(impl.EntList(p), ent(mark, mark))
}

func TestThingsLeaveTheArgumentAlone(t *testing.T) {
	for i, p := range append(rightEnts(), wrongEnts()...) {
		gens, free := guarded(p.Gens, 41), guarded(p.Free, 43)
		entCalls(t, impl.Ents{Gens: gens.list(), Free: free.list()})
		if !gens.kept() || !free.kept() {
			t.Error("written into the argument", i)
		}
	}
}

// What is behind a list in its array is none of its business.
func TestThingsDoNotLookAtSpareRoom(t *testing.T) {
	for i, p := range append(rightEnts(), wrongEnts()...) {
		gens, free := guarded(p.Gens, -1), guarded(p.Free, -1)
		roomy := impl.Ents{Gens: gens.list(), Free: free.list()}
		a, e, code := impl.EntTake(p)
		b, f, other := impl.EntTake(roomy)
		if code != other || e != f || !sameEnts(a, b) || impl.EntsOk(p) != impl.EntsOk(roomy) {
			t.Error("room", i)
		}
		if !slices.Equal(impl.EntList(p), impl.EntList(roomy)) {
			t.Error("room, list", i)
		}
	}
}
