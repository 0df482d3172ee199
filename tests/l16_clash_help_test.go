package tests

import (
	"slices"
	"strconv"
	"strings"
	"testing"

	"loop.example/g00070/impl"
)

var clashNames = []string{"", "comp", "res", "evt", "cmd"}

// clashText tells clashes as "comp 1, evt 0".
func clashText(list []impl.Clash) string {
	var words []string
	for _, c := range list {
		name := "sort " + strconv.Itoa(c.Sort)
		if c.Sort > 0 && c.Sort < len(clashNames) {
			name = clashNames[c.Sort]
		}
		words = append(words, name+" "+strconv.Itoa(c.At))
	}
	return strings.Join(words, ", ")
}

// cmdsAt is the text of the clashes by commands at these columns.
func cmdsAt(comps ...int) string {
	var list []impl.Clash
	for _, at := range comps {
		list = append(list, impl.Clash{Sort: impl.ClashCmd, At: at})
	}
	return clashText(list)
}

// bothOrders calls with the two effects one way round and the other way round.
func bothOrders(a, b impl.Effect, call func(a, b impl.Effect)) {
	call(a, b)
	call(b, a)
}

// clashesAre asks for all that Clashes and Apart tell, whoever is asked first,
// and for the same ahead of what Strictly tells of commands.
func clashesAre(t *testing.T, a, b impl.Effect, want string) {
	t.Helper()
	bothOrders(a, b, func(a, b impl.Effect) {
		if got := clashText(impl.Clashes(a, b)); got != want {
			t.Errorf("Clashes of %q and %q: %q, not %q", effText(a), effText(b), got, want)
		}
		if got := impl.Apart(a, b); got != (want == "") {
			t.Errorf("Apart of %q and %q: %v", effText(a), effText(b), got)
		}
		for comps := range impl.MaxDecls + 1 {
			list := impl.Strictly(a, b, comps)
			n := len(list)
			for n > 0 && list[n-1].Sort == impl.ClashCmd {
				n--
			}
			if got := clashText(list[:n]); got != want {
				t.Errorf("Strictly of %q and %q with %d columns begins with %q, not %q", effText(a), effText(b), comps, got, want)
			}
		}
	})
}

// strictlyAre asks for all that Strictly tells, whoever is asked first.
func strictlyAre(t *testing.T, a, b impl.Effect, comps int, want string) {
	t.Helper()
	bothOrders(a, b, func(a, b impl.Effect) {
		if got := clashText(impl.Strictly(a, b, comps)); got != want {
			t.Errorf("Strictly of %q and %q with %d columns: %q, not %q", effText(a), effText(b), comps, got, want)
		}
	})
}

// clashSorts has for each sort the chapter's words of one number: the first
// effect does the one thing, and the other one any of the others.
var clashSorts = []struct {
	sort int
	does func(a, b impl.Effect, comps, n int) bool
}{
	{impl.ClashComp, func(a, b impl.Effect, comps, n int) bool {
		return slices.Contains(a.Write, n) && inEither(n, b.Read, b.Write)
	}},
	{impl.ClashRes, func(a, b impl.Effect, comps, n int) bool {
		return slices.Contains(a.WriteRes, n) && inEither(n, b.ReadRes, b.WriteRes)
	}},
	{impl.ClashEvt, func(a, b impl.Effect, comps, n int) bool {
		return slices.Contains(a.Send, n) && inEither(n, b.Send, b.Hear)
	}},
	{impl.ClashCmd, func(a, b impl.Effect, comps, n int) bool {
		return isTarget(a, comps, n) && (inEither(n, b.Read, b.Write, b.Match) || isTarget(b, comps, n))
	}},
}

func isTarget(e impl.Effect, comps, n int) bool {
	return slices.Contains(e.Add, n) || e.Kills && n >= 0 && n < comps
}

// plainStrictly asks of each number that may matter, from the least one on,
// whether it is a clash.
func plainStrictly(a, b impl.Effect, comps int) []impl.Clash {
	numbers := upTo(impl.MaxDecls + 1)
	for _, e := range []impl.Effect{a, b} {
		for _, list := range effLists(&e) {
			numbers = append(numbers, *list...)
		}
	}
	slices.Sort(numbers)
	numbers = slices.Compact(numbers)
	var list []impl.Clash
	if comps < 0 || comps > impl.MaxDecls {
		return list
	}
	for _, s := range clashSorts {
		for _, n := range numbers {
			if s.does(a, b, comps, n) || s.does(b, a, comps, n) {
				list = append(list, impl.Clash{Sort: s.sort, At: n})
			}
		}
	}
	return list
}

func plainClashes(a, b impl.Effect) []impl.Clash {
	return slices.DeleteFunc(plainStrictly(a, b, 0), func(c impl.Clash) bool { return c.Sort == impl.ClashCmd })
}

// clashesArePlain holds all three functions against the plain answers.
func clashesArePlain(t *testing.T, a, b impl.Effect, comps int) {
	t.Helper()
	clashes, strict := plainClashes(a, b), plainStrictly(a, b, comps)
	bothOrders(a, b, func(a, b impl.Effect) {
		if got := impl.Clashes(a, b); !slices.Equal(got, clashes) {
			t.Errorf("Clashes of %q and %q: %q, not %q", effText(a), effText(b), clashText(got), clashText(clashes))
		}
		if got := impl.Strictly(a, b, comps); !slices.Equal(got, strict) {
			t.Errorf("Strictly of %q and %q with %d columns: %q, not %q", effText(a), effText(b), comps, clashText(got), clashText(strict))
		}
		if got := impl.Apart(a, b); got != (len(clashes) == 0) {
			t.Errorf("Apart of %q and %q: %v", effText(a), effText(b), got)
		}
	})
}

// rightEffect has ascending numbers below those limits, as an effect of a text
// has them.
func rightEffect(d *dice, comps, ress, evts int) impl.Effect {
	var e impl.Effect
	counts := map[int]int{impl.SortComp: comps, impl.SortRes: ress, impl.SortEvt: evts}
	for i, list := range effLists(&e) {
		often := 1 + d.roll(6)
		for n := range counts[effSorts[i]] {
			if d.roll(often) == 0 && d.roll(2) == 0 {
				*list = append(*list, n)
			}
		}
	}
	e.Spawns = d.roll(2) == 0
	e.Kills = d.roll(3) == 0
	return e
}

// readingAlone leaves of an effect what changes nothing.
func readingAlone(e impl.Effect) impl.Effect {
	return impl.Effect{Read: e.Read, Match: e.Match, ReadRes: e.ReadRes, Hear: e.Hear}
}
