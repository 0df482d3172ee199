package tests

import (
	"slices"
	"testing"

	"loop.example/g00070/impl"
)

// All effects that have to do with one column: each with each other one.
func TestAllEffectsOnOneColumn(t *testing.T) {
	var all []impl.Effect
	for bits := range 64 {
		var e impl.Effect
		for i, list := range []*[]int{&e.Read, &e.Write, &e.Match, &e.Add} {
			if bits>>i&1 == 1 {
				*list = []int{1}
			}
		}
		e.Spawns, e.Kills = bits>>4&1 == 1, bits>>5&1 == 1
		all = append(all, e)
	}
	for _, a := range all {
		for _, b := range all {
			for _, comps := range []int{-1, 0, 1, 2, 3, impl.MaxDecls, impl.MaxDecls + 1} {
				clashesArePlain(t, a, b, comps)
				if t.Failed() {
					return
				}
			}
		}
	}
}

// All effects that have to do with one resource and one stream of one number.
func TestAllEffectsOnOneResourceAndOneStream(t *testing.T) {
	var all []impl.Effect
	for bits := range 16 {
		var e impl.Effect
		for i, list := range []*[]int{&e.ReadRes, &e.WriteRes, &e.Send, &e.Hear} {
			if bits>>i&1 == 1 {
				*list = []int{3}
			}
		}
		all = append(all, e)
	}
	for _, a := range all {
		for _, b := range all {
			clashesArePlain(t, a, b, 5)
		}
	}
}

func TestAnyRightEffectsHeldAgainstAPlainAnswer(t *testing.T) {
	d := dice(160)
	apart, met := 0, map[int]int{}
	for range 8000 {
		comps, ress, evts := d.roll(impl.MaxDecls+1), d.roll(impl.MaxDecls+1), d.roll(impl.MaxDecls+1)
		a, b := rightEffect(&d, comps, ress, evts), rightEffect(&d, comps, ress, evts)
		clashesArePlain(t, a, b, comps)
		if t.Failed() {
			return
		}
		if impl.Apart(a, b) {
			apart++
		}
		for _, c := range impl.Strictly(a, b, comps) {
			met[c.Sort]++
		}
	}
	if apart < 500 || met[impl.ClashComp] < 1000 || met[impl.ClashRes] < 1000 || met[impl.ClashEvt] < 1000 || met[impl.ClashCmd] < 1000 {
		t.Error("hardly any:", apart, met)
	}
}

func TestAnyEffectsHeldAgainstAPlainAnswer(t *testing.T) {
	d := dice(161)
	apart := 0
	for range 20000 {
		a, b := anyEffect(&d, strangeNumbers), anyEffect(&d, strangeNumbers)
		switch d.roll(6) {
		case 0:
			b = cloneEff(a)
		case 1:
			b = readingAlone(b)
		}
		comps := d.roll(impl.MaxDecls + 1)
		if d.roll(8) == 0 {
			comps = oneOf(&d, strangeNumbers)
		}
		clashesArePlain(t, a, b, comps)
		if t.Failed() {
			return
		}
		if impl.Apart(a, b) {
			apart++
		}
	}
	if apart < 1000 {
		t.Error("hardly any are apart:", apart)
	}
}

// Two that only read are apart, and tell nothing strictly either.
func TestAnyTwoThatOnlyRead(t *testing.T) {
	d := dice(162)
	for range 5000 {
		a, b := readingAlone(anyEffect(&d, strangeNumbers)), readingAlone(anyEffect(&d, strangeNumbers))
		clashesAre(t, a, b, "")
		strictlyAre(t, a, b, d.roll(impl.MaxDecls+1), "")
		if t.Failed() {
			return
		}
	}
}

// A greater effect clashes with all that a lesser one clashes with, and a joint
// one with nothing that neither of its parts clashes with.
func TestAnyClashesOfJoins(t *testing.T) {
	d := dice(163)
	for range 5000 {
		a, b, c := anyEffect(&d, strangeNumbers), anyEffect(&d, strangeNumbers), anyEffect(&d, strangeNumbers)
		comps := d.roll(impl.MaxDecls + 1)
		parts := slices.Concat(impl.Strictly(a, c, comps), impl.Strictly(b, c, comps))
		slices.SortFunc(parts, compareClashes)
		parts = slices.Compact(parts)
		if got := impl.Strictly(impl.EffJoin(a, b), c, comps); !slices.Equal(got, parts) {
			t.Fatalf("a join of %q and %q with %q: %q, not %q", effText(a), effText(b), effText(c), clashText(got), clashText(parts))
		}
	}
}

func compareClashes(a, b impl.Clash) int {
	switch {
	case a.Sort != b.Sort:
		return a.Sort - b.Sort
	case a.At < b.At:
		return -1
	case a.At > b.At:
		return 1
	}
	return 0
}

// Effects of texts by chance.
func TestAnyClashesOfTexts(t *testing.T) {
	w := newAuthor(164)
	pairs, clashes := 0, 0
	for range 300 {
		x := treeOf(w.text(5, 2)...)
		var list []impl.Effect
		for _, top := range x.Tops {
			if e, ok := impl.Effects(w.r, x, x.Nodes[top].Text); ok {
				list = append(list, e)
			}
		}
		for i, a := range list {
			for _, b := range list[i:] {
				clashesArePlain(t, a, b, len(w.r.Comps))
				pairs++
				clashes += len(impl.Strictly(a, b, len(w.r.Comps)))
			}
		}
		if t.Failed() {
			return
		}
	}
	if pairs < 1000 || clashes < 1000 {
		t.Error("hardly any:", pairs, clashes)
	}
}
