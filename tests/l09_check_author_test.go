package tests

import (
	"slices"

	"loop.example/g00070/impl"
)

// author writes plants of texts that may run, by chance.
type author struct {
	dice
	r      impl.Reg
	fns    []*plant
	seen   []impl.Decl // the locals that are seen
	with   []string    // the columns of the NWith around, none outside
	inSys  bool
	inHear bool
}

func newAuthor(seed int) *author { return &author{dice: dice(seed), r: checkReg()} }

func oneOf[T any](d *dice, list []T) T { return list[d.roll(len(list))] }

// Locals and tops may have the names of columns, resources and streams.
var localNames = []string{"a", "b", "c", "d", "Hp", "Score", "Hit", "f", "g", "x", "y", "zz"}
var topNames = []string{"f", "g", "h", "s", "t", "u", "Hp", "Over", "Went", "a"}

func (w *author) kind() int { return 1 + w.roll(4) }

// withOf is the columns at hand that are of a kind.
func (w *author) withOf(kind int) []string {
	return slices.DeleteFunc(namesOf(w.r.Comps, kind), func(name string) bool { return !slices.Contains(w.with, name) })
}

func (w *author) fnsOf(kind int) []*plant {
	return slices.DeleteFunc(slices.Clone(w.fns), func(p *plant) bool { return p.i != kind })
}

// expression is one of that kind.
func (w *author) expression(kind, deep int) *plant {
	if deep <= 0 {
		return w.leaf(kind)
	}
	switch w.roll(6) {
	case 0:
		return w.leaf(kind)
	case 1:
		if list := w.fnsOf(kind); len(list) > 0 {
			return w.call(oneOf(&w.dice, list), deep)
		}
	case 2:
		if list := w.withOf(kind); len(list) > 0 {
			var names []string
			for range 1 + w.roll(3) {
				names = append(names, oneOf(&w.dice, list))
			}
			return pickPlant(w.expression(impl.KInt, deep-1), names...)
		}
	case 3:
		return w.turn(kind, deep)
	}
	return w.op(kind, deep)
}

func (w *author) call(fn *plant, deep int) *plant {
	p := named(impl.NCall, fn.text)
	for _, param := range fn.kids[:len(fn.kids)-1] {
		p.kids = append(p.kids, w.expression(param.i, deep-1))
	}
	return p
}

func (w *author) op(kind, deep int) *plant {
	if kind == impl.KPair && w.roll(2) == 0 {
		return grown(impl.NPair, w.expression(impl.KReal, deep-1), w.expression(impl.KReal, deep-1))
	}
	for {
		op, of := 1+w.roll(9), w.kind()
		if opResult(op, of, of) == kind {
			return opPlant(op, w.expression(of, deep-1), w.expression(of, deep-1))
		}
	}
}

func (w *author) turn(kind, deep int) *plant {
	for {
		op, of := 1+w.roll(6), w.kind()
		if turnResult(op, of) == kind {
			return turnPlant(op, w.expression(of, deep-1))
		}
	}
}

func (w *author) leaf(kind int) *plant {
	switch w.roll(4) {
	case 0:
		if list := namesOf(w.seen, kind); len(list) > 0 {
			return localLeaf(oneOf(&w.dice, list))
		}
	case 1:
		if list := w.withOf(kind); len(list) > 0 {
			return leaf(impl.NComp, oneOf(&w.dice, list), 0)
		}
	case 2:
		return leaf(impl.NRes, oneOf(&w.dice, namesOf(w.r.Ress, kind)), 0)
	}
	switch kind {
	case impl.KInt:
		return wholeLeaf(w.roll(5))
	case impl.KReal:
		return realLeaf(oneOf(&w.dice, []string{"0.0", "1.5", "2.25"}))
	case impl.KBool:
		return yesLeaf(w.roll(2))
	}
	return grown(impl.NPair, w.leaf(impl.KReal), w.leaf(impl.KReal))
}

// newLocal is a name that is not seen, or none.
func (w *author) newLocal() string {
	name := oneOf(&w.dice, localNames)
	if slices.ContainsFunc(w.seen, func(d impl.Decl) bool { return d.Name == name }) {
		return ""
	}
	return name
}

func (w *author) block(deep, most int) *plant {
	before := len(w.seen)
	p := blockPlant()
	for range w.roll(most + 1) {
		p.kids = append(p.kids, w.statement(deep))
	}
	w.seen = w.seen[:before]
	return p
}

func (w *author) statement(deep int) *plant {
	for {
		if p := w.anyStatement(deep); p != nil {
			return p
		}
	}
}

// anyStatement is none where the one that came up may not stand.
func (w *author) anyStatement(deep int) *plant {
	kind := w.kind()
	switch w.roll(10) {
	case 0:
		name := w.newLocal()
		if name == "" {
			return nil
		}
		p := named(impl.NLet, name, w.expression(kind, deep))
		w.seen = append(w.seen, decl(name, kind))
		return p
	case 1:
		if list := namesOf(w.seen, kind); len(list) > 0 {
			return named(impl.NStore, oneOf(&w.dice, list), w.expression(kind, deep))
		}
	case 2:
		return named(impl.NSetRes, oneOf(&w.dice, namesOf(w.r.Ress, kind)), w.expression(kind, deep))
	case 3:
		return named(impl.NEmit, oneOf(&w.dice, namesOf(w.r.Evts, kind)), w.expression(kind, deep))
	case 4:
		return w.spawn(deep)
	case 5:
		if len(w.fns) > 0 {
			return grown(impl.NDo, w.call(oneOf(&w.dice, w.fns), deep))
		}
	case 6, 7:
		if deep > 0 {
			return w.branch(deep - 1)
		}
	default:
		if len(w.with) > 0 {
			return w.change(kind, deep)
		}
		if w.inSys && !w.inHear && deep > 0 {
			return w.gone(deep - 1)
		}
	}
	return nil
}

func (w *author) spawn(deep int) *plant {
	p := grown(impl.NSpawn)
	for _, d := range w.r.Comps {
		if w.roll(4) == 0 {
			p.kids = append(p.kids, named(impl.NCell, d.Name, w.expression(d.Kind, deep)))
		}
	}
	return p
}

func (w *author) branch(deep int) *plant {
	if w.roll(2) == 0 {
		return grown(impl.NLoop, w.expression(impl.KInt, deep), w.block(deep, 3))
	}
	p := grown(impl.NIf, w.expression(impl.KBool, deep), w.block(deep, 3))
	if w.roll(2) == 0 {
		p.kids = append(p.kids, w.block(deep, 3))
	}
	return p
}

// change is a statement about the thing of the NEach around.
func (w *author) change(kind, deep int) *plant {
	name := oneOf(&w.dice, namesOf(w.r.Comps, kind))
	switch w.roll(5) {
	case 0:
		return grown(impl.NKill)
	case 1:
		return leaf(impl.NDrop, name, 0)
	case 2:
		return named(impl.NPut, name, w.expression(kind, deep))
	}
	if list := w.withOf(kind); len(list) > 0 {
		return named(impl.NSetComp, oneOf(&w.dice, list), w.expression(kind, deep))
	}
	return nil
}

// gone is a statement that goes through things or events.
func (w *author) gone(deep int) *plant {
	if w.roll(3) == 0 {
		return w.hear(deep)
	}
	with, without := namesPlant(impl.NWith), namesPlant(impl.NWithout)
	for _, d := range w.r.Comps {
		switch w.roll(3) {
		case 0:
			with.kids = append(with.kids, leaf(impl.NName, d.Name, 0))
			w.with = append(w.with, d.Name)
		case 1:
			if w.roll(3) == 0 {
				without.kids = append(without.kids, leaf(impl.NName, d.Name, 0))
			}
		}
	}
	if len(with.kids) == 0 {
		return nil
	}
	p := grown(impl.NEach, with, without, w.block(deep, 5))
	w.with = nil
	return p
}

func (w *author) hear(deep int) *plant {
	name := w.newLocal()
	if name == "" {
		return nil
	}
	d := oneOf(&w.dice, w.r.Evts)
	w.seen, w.inHear = append(w.seen, decl(name, d.Kind)), true
	p := named(impl.NHear, d.Name, leaf(impl.NName, name, 0), w.block(deep, 4))
	w.seen, w.inHear = w.seen[:len(w.seen)-1], false
	return p
}

func (w *author) fn(name string, deep int) *plant {
	w.seen, w.with, w.inSys = nil, nil, false
	p := &plant{kind: impl.NFn, text: name, i: w.kind()}
	for range w.roll(4) {
		if param := w.newLocal(); param != "" {
			kind := w.kind()
			w.seen = append(w.seen, decl(param, kind))
			p.kids = append(p.kids, leaf(impl.NParam, param, kind))
		}
	}
	block := blockPlant()
	for range w.roll(4) {
		block.kids = append(block.kids, w.statement(deep))
	}
	block.kids = append(block.kids, grown(impl.NReturn, w.expression(p.i, deep)))
	p.kids = append(p.kids, block)
	return p
}

func (w *author) system(name string, deep int) *plant {
	w.seen, w.with, w.inSys = nil, nil, true
	return named(impl.NSystem, name, w.block(deep, 6))
}

// text is some tops, each of which calls none but those ahead.
func (w *author) text(most, deep int) []*plant {
	w.fns = nil
	var tops []*plant
	for _, name := range w.shuffled(topNames)[:1+w.roll(most)] {
		if w.roll(5) < 2 {
			tops = append(tops, w.system(name, deep))
			continue
		}
		p := w.fn(name, deep)
		tops = append(tops, p)
		w.fns = append(w.fns, p)
	}
	return tops
}

func (w *author) shuffled(list []string) []string {
	list = slices.Clone(list)
	for i := range list {
		j := i + w.roll(len(list)-i)
		list[i], list[j] = list[j], list[i]
	}
	return list
}

func clonePlant(p *plant) *plant {
	q := *p
	q.kids = clonePlants(p.kids)
	return &q
}

func clonePlants(list []*plant) []*plant {
	var copies []*plant
	for _, p := range list {
		copies = append(copies, clonePlant(p))
	}
	return copies
}
