package tests

import (
	"slices"

	"loop.example/g00070/impl"
)

// meaning does a text as chapter 13 tells it, on the tree itself, without any
// code. Names are looked up from a node upwards each time that it is come to;
// locals stand by the nodes that name them first.
type meaning struct {
	*audit
	d      impl.Done
	fuel   int
	thing  impl.Ent
	locals map[int]impl.Val
	back   impl.Val // what the last NReturn told
}

// meant is what a system of a tree that may run leaves.
func meant(a *audit, system int, s impl.State, fuel int) impl.Done {
	m := &meaning{audit: a, fuel: fuel, d: impl.Done{State: cloneState(s)}, locals: map[int]impl.Val{}}
	endedBy(&m.d, func() { m.do(a.t.Nodes[system].Kids[0]) })
	return m.d
}

func (m *meaning) step() {
	if m.d.Steps == m.fuel {
		panic(plainFault(impl.FaultFuel))
	}
	m.d.Steps++
}

func (m *meaning) fullIf(full bool) {
	if full {
		panic(plainFault(impl.FaultFull))
	}
}

// value is that of an expression.
func (m *meaning) value(node int) impl.Val {
	n := m.t.Nodes[node]
	switch n.Kind {
	case impl.NInt:
		return whole(n.I)
	case impl.NReal:
		return pushedVal(n.Text)
	case impl.NYesNo:
		return yesNo(n.I == 1)
	case impl.NLocal:
		return m.locals[m.seen(node, n.Text)]
	case impl.NComp:
		return m.get(n.Text)
	case impl.NRes:
		return m.d.State.World.Res[m.find(impl.SortRes, n.Text)]
	case impl.NPick:
		at := m.value(n.Kids[0])
		return m.get(m.t.Nodes[n.Kids[1+leftOf(at.I, len(n.Kids)-1)]].Text)
	}
	vals := m.values(n.Kids)
	switch n.Kind {
	case impl.NCall:
		return m.called(m.fnAhead(node, n.Text), vals)
	case impl.NOp:
		v, code := impl.ValOp(n.I, vals[0], vals[1])
		if code == impl.OpZero {
			panic(plainFault(impl.FaultZero))
		}
		return v
	case impl.NTurn:
		v, _ := impl.ValTurn(n.I, vals[0])
		return v
	}
	v, _ := impl.ValPair(vals[0], vals[1])
	return v
}

func (m *meaning) values(nodes []int) []impl.Val {
	var list []impl.Val
	for _, node := range nodes {
		list = append(list, m.value(node))
	}
	return list
}

func (m *meaning) get(name string) impl.Val {
	v, ok := impl.Get(m.r, m.d.State.World, m.thing, m.find(impl.SortComp, name))
	if !ok {
		panic("the thing has no " + name)
	}
	return v
}

func (m *meaning) called(fn int, vals []impl.Val) impl.Val {
	m.step()
	outer := m.locals
	m.locals = map[int]impl.Val{}
	kids := m.t.Nodes[fn].Kids
	for i, v := range vals {
		m.locals[kids[i]] = v
	}
	m.do(kids[len(kids)-1])
	m.locals = outer
	return m.back
}

// do does a block, or a statement.
func (m *meaning) do(node int) {
	n := m.t.Nodes[node]
	if n.Kind == impl.NBlock {
		for _, kid := range n.Kids {
			m.step()
			m.do(kid)
		}
		return
	}
	s := &m.d.State
	switch n.Kind {
	case impl.NLet:
		m.locals[node] = m.value(n.Kids[0])
	case impl.NStore:
		v := m.value(n.Kids[0])
		m.locals[m.seen(node, n.Text)] = v
	case impl.NSetRes:
		v := m.value(n.Kids[0])
		s.World.Res[m.find(impl.SortRes, n.Text)] = v
	case impl.NSetComp:
		v := m.value(n.Kids[0])
		w, code := impl.Set(m.r, s.World, m.thing, m.find(impl.SortComp, n.Text), v)
		if code != impl.WDone {
			panic("not set: " + n.Text)
		}
		s.World = w
	case impl.NEmit:
		at := m.find(impl.SortEvt, n.Text)
		q, ok := impl.Send(m.r.Evts[at].Kind, s.Streams[at], m.value(n.Kids[0]))
		m.fullIf(!ok)
		s.Streams[at] = q
	case impl.NDo:
		m.value(n.Kids[0])
	case impl.NReturn:
		m.back = m.value(n.Kids[0])
	case impl.NIf, impl.NLoop, impl.NEach, impl.NHear:
		m.round(n)
	default:
		m.write(m.command(n))
	}
}

func (m *meaning) round(n impl.Node) {
	s := &m.d.State
	switch n.Kind {
	case impl.NIf:
		if m.value(n.Kids[0]).I == 1 {
			m.do(n.Kids[1])
		} else if len(n.Kids) == 3 {
			m.do(n.Kids[2])
		}
	case impl.NLoop:
		for i := m.value(n.Kids[0]).I; i > 0; i-- {
			m.do(n.Kids[1])
			m.step()
		}
	case impl.NEach:
		for _, m.thing = range impl.Match(s.World, m.columns(n.Kids[0]), m.columns(n.Kids[1])) {
			m.do(n.Kids[2])
			m.step()
		}
	case impl.NHear:
		at := m.find(impl.SortEvt, n.Text)
		list, behind, _ := impl.Unread(s.Streams[at], s.Cursors[at])
		s.Cursors[at] = behind
		for _, v := range list {
			m.locals[n.Kids[0]] = v
			m.do(n.Kids[1])
			m.step()
		}
	}
}

// columns is the numbers that an NWith or NWithout names.
func (m *meaning) columns(node int) []int {
	var list []int
	for _, name := range m.texts(m.t.Nodes[node].Kids) {
		list = append(list, m.find(impl.SortComp, name))
	}
	return list
}

func (m *meaning) command(n impl.Node) impl.Cmd {
	comp := m.find(impl.SortComp, n.Text)
	switch n.Kind {
	case impl.NKill:
		return cmdKill(m.thing)
	case impl.NPut:
		return cmdPut(m.thing, comp, m.value(n.Kids[0]))
	case impl.NDrop:
		return cmdDrop(m.thing, comp)
	}
	c := cmdSpawn()
	for _, kid := range n.Kids {
		c.List = append(c.List, cell(m.find(impl.SortComp, m.t.Nodes[kid].Text), m.value(m.t.Nodes[kid].Kids[0])))
	}
	return c
}

func (m *meaning) write(c impl.Cmd) {
	m.fullIf(len(m.d.Cmds) == impl.MaxCmds)
	m.d.Cmds = append(m.d.Cmds, c)
}

// anyState is a right state by chance: things in tables of any columns, some of
// which are gone again, streams that are empty to full, cursors of any sort.
func anyState(d *dice, r impl.Reg) impl.State {
	c := chain{r: r, w: impl.NewWorld(r), d: *d}
	for i := range c.w.Res {
		c.w.Res[i] = anyOf(&c.d, r.Ress[i].Kind)
	}
	for range c.d.roll(12) {
		var list []impl.Cell
		for _, comp := range c.anyComps(len(r.Comps)) {
			list = append(list, cell(comp, anyOf(&c.d, r.Comps[comp].Kind)))
		}
		w, e, _ := impl.Spawn(r, c.w, list)
		if c.w = w; c.d.roll(5) == 0 {
			c.w, _ = impl.Kill(r, c.w, e)
		}
	}
	s := impl.State{World: c.w}
	for _, decl := range r.Evts {
		q := impl.Stream{First: oneOf(&c.d, rightFirsts)}
		for range c.d.roll(5) {
			q.Old = append(q.Old, anyOf(&c.d, decl.Kind))
		}
		for range c.d.roll(5) {
			q.New = append(q.New, anyOf(&c.d, decl.Kind))
		}
		if c.d.roll(8) == 0 {
			q.New = slices.Repeat([]impl.Val{anyOf(&c.d, decl.Kind)}, impl.MaxEvents-c.d.roll(3))
		}
		s.Streams = append(s.Streams, q)
		s.Cursors = append(s.Cursors, oneOf(&c.d, someCursors(q)))
	}
	*d = c.d
	return s
}

// anyOf is a right value of that kind; whole numbers are small for the most
// part, so that rounds come to an end.
func anyOf(d *dice, kind int) impl.Val {
	if kind == impl.KInt && d.roll(5) > 0 {
		return whole(d.roll(7) - 2)
	}
	return oneOf(d, valsOf(kind))
}
