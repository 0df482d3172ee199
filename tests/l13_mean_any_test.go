package tests

import (
	"slices"
	"testing"

	"loop.example/g00070/impl"
)

// systemsOf is the names of all systems of a tree.
func systemsOf(x impl.Tree) []string {
	var list []string
	for _, top := range x.Tops {
		if x.Nodes[top].Kind == impl.NSystem {
			list = append(list, x.Nodes[top].Text)
		}
	}
	return list
}

// Texts by chance on states by chance: what Mean leaves is what the machine
// leaves, and what the tests' own meaning leaves.
func TestAnyTextMeansWhatItDoes(t *testing.T) {
	w := newAuthor(13)
	d := dice(131)
	met, long := map[int]int{}, 0
	for range 1000 {
		x := treeOf(w.text(6, 3)...)
		if len(x.Nodes) > 400 {
			continue
		}
		s := anyState(&d, checkReg())
		for _, name := range systemsOf(x) {
			c := newReading(t, checkReg(), x, name, s)
			steps := c.at(t, impl.MaxFuel).Steps
			fuels := someFuels(steps)
			if steps <= 100 {
				fuels = upTo(steps + 2)
			} else {
				long++
			}
			met[c.atFuels(t, fuels).Fault]++
			c.byTheTests(t, someFuels(steps))
		}
	}
	if met[impl.FaultNone] < 300 || met[impl.FaultZero] < 50 || met[impl.FaultFuel] < 3 || met[impl.FaultFull] < 20 || long < 20 {
		t.Error("too few were met:", met, long)
	}
}

// touchedAlone asks that a run has changed nothing but what an effect holds.
func touchedAlone(t *testing.T, c reading, e impl.Effect, d impl.Done) {
	t.Helper()
	was, is := c.s, d.State
	held := func(what string, list []int, n int) {
		if !slices.Contains(list, n) {
			t.Fatalf("%s %d is outside of the effect %s:\n%s", what, n, effText(e), c.text())
		}
	}
	for i := range was.World.Res {
		if !same(was.World.Res[i], is.World.Res[i]) {
			held("resource", e.WriteRes, i)
		}
	}
	for i, one := range was.World.Tables {
		for k, comp := range one.Cols {
			if !sameVals(one.Cells[k], is.World.Tables[i].Cells[k]) {
				held("column", e.Write, comp)
			}
			copy(is.World.Tables[i].Cells[k], one.Cells[k])
		}
	}
	copy(is.World.Res, was.World.Res)
	for i := range was.Streams {
		if !sameVals(was.Streams[i].New, is.Streams[i].New) {
			held("stream", e.Send, i)
		}
		if was.Cursors[i] != is.Cursors[i] {
			held("cursor", e.Hear, i)
		}
		is.Streams[i].New, is.Cursors[i] = was.Streams[i].New, was.Cursors[i]
	}
	// all else is as it was
	if !sameState(was, is) {
		t.Fatalf("more than values has changed:\n%s%s", c.text(), doneText(d))
	}
	for _, comp := range impl.Targets(d.Cmds) {
		held("target", e.Add, comp)
	}
	for _, cmd := range d.Cmds {
		if cmd.Kind == impl.CmdSpawn && !e.Spawns || cmd.Kind == impl.CmdKill && !e.Kills {
			t.Fatalf("a command %d is outside of the effect %s:\n%s", cmd.Kind, effText(e), c.text())
		}
	}
}

func TestAnyTextTouchesItsEffectsAlone(t *testing.T) {
	w := newAuthor(132)
	d := dice(133)
	for range 1000 {
		x := treeOf(w.text(6, 3)...)
		s := anyState(&d, checkReg())
		for _, name := range systemsOf(x) {
			c := newReading(t, checkReg(), x, name, s)
			e, _ := impl.Effects(c.r, x, name)
			for _, fuel := range []int{1, 7, 40, impl.MaxFuel} {
				touchedAlone(t, c, e, impl.Mean(c.r, x, name, s, fuel))
			}
		}
	}
}

// What an effect does not hold may be anything: it stays, and all else is done
// in the same way.
func TestWhatIsNotTouchedDoesNotMatter(t *testing.T) {
	w := newAuthor(134)
	d := dice(135)
	count := 0
	for range 1200 {
		x := treeOf(w.text(5, 3)...)
		s := anyState(&d, checkReg())
		for _, name := range systemsOf(x) {
			c := newReading(t, checkReg(), x, name, s)
			e, _ := impl.Effects(c.r, x, name)
			other := cloneState(s)
			count += otherwise(&d, &other, e)
			want, have := c.at(t, impl.MaxFuel), impl.Mean(c.r, x, name, other, impl.MaxFuel)
			took(&want.State, other, e)
			if !sameDone(have, want) {
				t.Fatalf("what is not touched matters:\n%shave %s\nwant %s", c.text(), doneText(have), doneText(want))
			}
		}
	}
	if count < 3000 {
		t.Error("too few were turned:", count)
	}
}

// otherwise gives other values to all that an effect neither reads nor writes,
// and tells how many.
func otherwise(d *dice, s *impl.State, e impl.Effect) int {
	count := 0
	for i := range s.World.Res {
		if !inEither(i, e.ReadRes, e.WriteRes) {
			s.World.Res[i] = anyOf(d, s.World.Res[i].Kind)
			count++
		}
	}
	for _, one := range s.World.Tables {
		for k, comp := range one.Cols {
			if inEither(comp, e.Read, e.Write) {
				continue
			}
			for row, v := range one.Cells[k] {
				one.Cells[k][row] = anyOf(d, v.Kind)
				count++
			}
		}
	}
	for i := range s.Streams {
		if !inEither(i, e.Send, e.Hear) {
			s.Streams[i] = impl.Stream{First: d.roll(50)}
			s.Cursors[i] = d.roll(50)
			count++
		}
	}
	return count
}

// took takes over from another state what an effect neither reads nor writes.
func took(s *impl.State, from impl.State, e impl.Effect) {
	for i := range s.World.Res {
		if !inEither(i, e.ReadRes, e.WriteRes) {
			s.World.Res[i] = from.World.Res[i]
		}
	}
	for i, one := range s.World.Tables {
		for k, comp := range one.Cols {
			if !inEither(comp, e.Read, e.Write) {
				copy(one.Cells[k], from.World.Tables[i].Cells[k])
			}
		}
	}
	for i := range s.Streams {
		if !inEither(i, e.Send, e.Hear) {
			s.Streams[i], s.Cursors[i] = from.Streams[i], from.Cursors[i]
		}
	}
}

// Tops that a system does not come to, behind it or ahead of it, change
// nothing; nor does how its text is written.
func TestMeaningHangsOnTheSystemAlone(t *testing.T) {
	w := newAuthor(136)
	d := dice(137)
	for range 300 {
		tops := w.text(5, 2)
		x := treeOf(tops...)
		s := anyState(&d, checkReg())
		more := fnPlant("more", impl.KInt, blockPlant(grown(impl.NSpawn), named(impl.NSetRes, "Score", wholeLeaf(3)), grown(impl.NReturn, wholeLeaf(1))))
		for _, name := range systemsOf(x) {
			want := impl.Mean(checkReg(), x, name, s, impl.MaxFuel)
			for _, y := range []impl.Tree{treeOf(append(slices.Clone(tops), more)...), treeOf(append([]*plant{more}, tops...)...)} {
				if have := newReading(t, checkReg(), y, name, s).at(t, impl.MaxFuel); !sameDone(have, want) {
					text, _ := impl.Print(y)
					t.Fatalf("one more function matters:\n%shave %s\nwant %s", text, doneText(have), doneText(want))
				}
			}
			text, _ := impl.Print(x)
			y, code, _ := impl.Parse(spread(&d, text))
			if code != impl.ParDone {
				continue // too long, or too deep
			}
			if have := impl.Mean(checkReg(), y, name, s, impl.MaxFuel); !sameDone(have, want) {
				t.Fatalf("how it is written matters:\n%shave %s\nwant %s", text, doneText(have), doneText(want))
			}
		}
	}
}
