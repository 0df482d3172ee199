package tests

import (
	"slices"
	"strconv"
	"strings"
	"testing"

	"loop.example/g00070/impl"
)

// effLists points at the lists of an effect, in its order.
func effLists(e *impl.Effect) []*[]int {
	return []*[]int{&e.Read, &e.Write, &e.Match, &e.ReadRes, &e.WriteRes, &e.Send, &e.Hear, &e.Add}
}

var effNames = []string{"Read", "Write", "Match", "ReadRes", "WriteRes", "Send", "Hear", "Add"}

// effSorts is of what the lists have the numbers.
var effSorts = []int{impl.SortComp, impl.SortComp, impl.SortComp, impl.SortRes, impl.SortRes, impl.SortEvt, impl.SortEvt, impl.SortComp}

// effText tells what an effect has, as "Read 0 1 Hear 2 Kills".
func effText(e impl.Effect) string {
	var words []string
	for i, list := range effLists(&e) {
		if len(*list) > 0 {
			words = append(words, effNames[i])
		}
		for _, n := range *list {
			words = append(words, strconv.Itoa(n))
		}
	}
	if e.Spawns {
		words = append(words, "Spawns")
	}
	if e.Kills {
		words = append(words, "Kills")
	}
	return strings.Join(words, " ")
}

// effOf is the effect that such a text tells.
func effOf(text string) impl.Effect {
	var e impl.Effect
	var at *[]int
	for _, word := range strings.Fields(text) {
		if i := slices.Index(effNames, word); i >= 0 {
			at = effLists(&e)[i]
			continue
		}
		switch word {
		case "Spawns":
			e.Spawns = true
		case "Kills":
			e.Kills = true
		default:
			n, err := strconv.Atoi(word)
			if err != nil {
				panic(err)
			}
			*at = append(*at, n)
		}
	}
	return e
}

func cloneEff(e impl.Effect) impl.Effect {
	for _, list := range effLists(&e) {
		*list = slices.Clone(*list)
	}
	return e
}

// touches asks for the effect of one top.
func touches(t *testing.T, r impl.Reg, x impl.Tree, name, want string) {
	t.Helper()
	e, ok := impl.Effects(r, x, name)
	if !ok || effText(e) != want {
		text, _ := impl.Print(x)
		t.Errorf("Effects of %s: %q %v, not %q: %s", name, effText(e), ok, want, text)
	}
	if !impl.EffectOk(r, e) {
		t.Errorf("the effect of %s is not right: %s", name, effText(e))
	}
}

// untouched asks for no effect.
func untouched(t *testing.T, what string, r impl.Reg, x impl.Tree, name string) {
	t.Helper()
	if e, ok := impl.Effects(r, x, name); ok || effText(e) != "" {
		t.Errorf("%s: Effects of %q: %q %v", what, name, effText(e), ok)
	}
}

// tally finds what tops touch from the single nodes upwards: each node is held
// against the node above it, and belongs to the top that it stands in.
type tally struct {
	*audit
}

// reached is a top and all that are called in it, in what is called, and so on.
func (a tally) reached(top int) map[int]bool {
	all := map[int]bool{top: true}
	for grown := true; grown; {
		grown = false
		for node, n := range a.t.Nodes {
			if n.Kind != impl.NCall || !all[a.topOf(node)] {
				continue
			}
			if fn := a.fnAhead(node, n.Text); !all[fn] {
				all[fn], grown = true, true
			}
		}
	}
	return all
}

// listOfNode is the list in which what a node names is told, or -1.
func (a tally) listOfNode(node int) int {
	kind := a.t.Nodes[node].Kind
	if kind == impl.NName {
		over := map[int]int{impl.NPick: 0, impl.NWith: 2, impl.NWithout: 2}
		if list, ok := over[a.t.Nodes[a.above[node]].Kind]; ok {
			return list
		}
		return -1
	}
	list, ok := map[int]int{
		impl.NComp: 0, impl.NSetComp: 1, impl.NRes: 3, impl.NSetRes: 4, impl.NEmit: 5, impl.NHear: 6, impl.NCell: 7, impl.NPut: 7, impl.NDrop: 7,
	}[kind]
	if !ok {
		return -1
	}
	return list
}

func (a tally) effect(top int) impl.Effect {
	var e impl.Effect
	tops := a.reached(top)
	lists := effLists(&e)
	for node, n := range a.t.Nodes {
		if !tops[a.topOf(node)] {
			continue
		}
		e.Spawns = e.Spawns || n.Kind == impl.NSpawn
		e.Kills = e.Kills || n.Kind == impl.NKill
		if i := a.listOfNode(node); i >= 0 {
			*lists[i] = append(*lists[i], a.find(effSorts[i], n.Text))
		}
	}
	for _, list := range lists {
		slices.Sort(*list)
		*list = slices.Compact(*list)
	}
	return e
}

// tallied holds the effects of all tops of a tree that may run against a
// tally.
func tallied(t *testing.T, r impl.Reg, x impl.Tree) {
	t.Helper()
	a := tally{newAudit(r, x)}
	for _, top := range x.Tops {
		touches(t, r, x, x.Nodes[top].Text, effText(a.effect(top)))
	}
}

// anyEffect has few numbers, strange ones among them, in no order.
func anyEffect(d *dice, strange []int) impl.Effect {
	var e impl.Effect
	for _, list := range effLists(&e) {
		for range d.roll(4) {
			n := d.roll(5)
			if d.roll(4) == 0 {
				n = oneOf(d, strange)
			}
			*list = append(*list, n)
		}
	}
	e.Spawns = d.roll(2) == 0
	e.Kills = d.roll(2) == 0
	return e
}

var strangeNumbers = []int{-1, -2, 11, 12, 13, 4000, leastInt, mostInt, leastInt + 1, mostInt - 1}
