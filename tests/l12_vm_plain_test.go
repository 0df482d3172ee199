package tests

import (
	"slices"

	"loop.example/g00070/impl"
)

// plainFault ends a plain machine's run, or a meaning's.
type plainFault int

// plainMachine does what chapter 12 says without any haste: things are looked
// for in the tables each time, streams are sent to by the call of chapter 6,
// each instruction asks first for all that it names.
type plainMachine struct {
	r      impl.Reg
	p      impl.Program
	d      impl.Done
	fuel   int
	place  int
	stack  []impl.Val
	calls  []plainCall
	things []impl.Ent
	thing  []impl.Ent // one, or none
	events []impl.Val
}

// plainCall is a function that is open; a local that is not in its map is the
// zero value.
type plainCall struct {
	slots  int
	locals map[int]impl.Val
	back   int
}

func plainRun(r impl.Reg, p impl.Program, s impl.State, fuel int) impl.Done {
	m := &plainMachine{r: r, p: p, fuel: fuel, d: impl.Done{State: cloneState(s)}}
	if !plainStateOk(r, s) || fuel < 0 || fuel > impl.MaxFuel {
		m.d.Fault = impl.FaultBad
		return m.d
	}
	endedBy(&m.d, m.run)
	return m.d
}

func plainStateOk(r impl.Reg, s impl.State) bool {
	ok := impl.WorldOk(r, s.World) && len(s.Streams) == len(r.Evts) && len(s.Cursors) == len(r.Evts)
	for i := range s.Streams {
		ok = ok && impl.StreamOk(r.Evts[i].Kind, s.Streams[i])
	}
	return ok
}

// endedBy writes down the fault with which a run ends.
func endedBy(d *impl.Done, run func()) {
	defer func() {
		what := recover()
		if fault, ok := what.(plainFault); ok {
			d.Fault, d.Cmds = int(fault), nil
		} else if what != nil {
			panic(what)
		}
	}()
	run()
}

func need(ok bool) {
	if !ok {
		panic(plainFault(impl.FaultCode))
	}
}

func (m *plainMachine) run() {
	p := m.p
	need(len(p.Code) <= impl.MaxCode && len(p.Starts) > 0 && len(p.Starts) == len(p.Slots))
	m.begin(len(p.Starts)-1, nil, -1)
	for {
		need(m.place >= 0 && m.place < len(p.Code))
		one := p.Code[m.place]
		if one.Op == impl.IEnd {
			need(len(m.calls) == 1)
			return
		}
		m.stepsOf(one)
		m.do(one)
	}
}

// stepsOf counts what an instruction costs, ahead of doing it.
func (m *plainMachine) stepsOf(one impl.Ins) {
	costs := one.Op == impl.ITick || one.Op == impl.ICall || m.goesTo(one) && one.A <= m.place
	if !costs {
		return
	}
	if m.d.Steps+1 > m.fuel {
		panic(plainFault(impl.FaultFuel))
	}
	m.d.Steps++
}

// goesTo tells whether an instruction goes to its A.
func (m *plainMachine) goesTo(one impl.Ins) bool {
	switch one.Op {
	case impl.IJump:
		return true
	case impl.IUnless:
		return m.top(impl.KBool).I == 0
	case impl.ILoop:
		return m.top(impl.KInt).I <= 0
	case impl.INext:
		return len(m.things) == 0
	case impl.IMore:
		return len(m.events) == 0
	}
	return false
}

func (m *plainMachine) top(kind int) impl.Val {
	need(len(m.stack) > 0 && m.stack[len(m.stack)-1].Kind == kind)
	return m.stack[len(m.stack)-1]
}

func (m *plainMachine) begin(function int, first []impl.Val, back int) {
	need(function >= 0 && function < len(m.p.Starts))
	slots := m.p.Slots[function]
	need(slots >= 0 && slots <= impl.MaxStack && len(first) <= slots && len(m.calls)+1 <= impl.MaxFrames)
	call := plainCall{slots, map[int]impl.Val{}, back}
	for i, v := range first {
		call.locals[i] = v
	}
	m.calls = append(m.calls, call)
	m.place = m.p.Starts[function]
}

func (m *plainMachine) lay(v impl.Val) {
	need(impl.ValOk(v))
	m.stack = append(m.stack, v)
	need(len(m.stack) <= impl.MaxStack)
}

func (m *plainMachine) take() impl.Val {
	need(len(m.stack) > 0)
	v := m.stack[len(m.stack)-1]
	m.stack = m.stack[:len(m.stack)-1]
	return v
}

func (m *plainMachine) takeMany(n int) []impl.Val {
	need(n >= 0 && n <= len(m.stack))
	var list []impl.Val
	for range n {
		list = append(list, m.take())
	}
	slices.Reverse(list)
	return list
}

func (m *plainMachine) takeOf(kind int) impl.Val {
	v := m.take()
	need(impl.ValOk(v) && v.Kind == kind)
	return v
}

func (m *plainMachine) call() plainCall { return m.calls[len(m.calls)-1] }

func (m *plainMachine) hasLocal(at int) bool { return at >= 0 && at < m.call().slots }

func (m *plainMachine) list(at int) []int {
	need(at >= 0 && at < len(m.p.Lists))
	return m.p.Lists[at]
}

// kindAt is the kind of a column, resource or stream that there must be.
func (m *plainMachine) kindAt(sort, at int) int {
	list := *listOf(&m.r, sort)
	need(at >= 0 && at < len(list))
	return list[at].Kind
}

// cell is the thing's cell in a column, which it must have.
func (m *plainMachine) cell(comp int) *impl.Val {
	need(len(m.thing) == 1)
	w := m.d.State.World
	at, row := impl.Where(w, m.thing[0])
	col := slices.Index(w.Tables[at].Cols, comp)
	need(col >= 0)
	return &w.Tables[at].Cells[col][row]
}

func (m *plainMachine) write(c impl.Cmd) {
	need(impl.CmdOk(m.r, c))
	m.d.Cmds = append(m.d.Cmds, c)
	if len(m.d.Cmds) > impl.MaxCmds {
		panic(plainFault(impl.FaultFull))
	}
}

// do does an instruction but IEnd, whose step is counted.
func (m *plainMachine) do(one impl.Ins) {
	goes := m.goesTo(one)
	m.place++
	switch one.Op {
	case impl.IJump, impl.IUnless, impl.ILoop, impl.INext, impl.IMore:
		m.lead(one, goes)
	case impl.IComp, impl.ISetComp, impl.IRes, impl.ISetRes, impl.IPick:
		m.doWorld(one)
	case impl.IHear, impl.IEmit:
		m.doStream(one)
	case impl.ISpawn, impl.IKill, impl.IPut, impl.IDrop:
		m.doCommand(one)
	case impl.ICall:
		need(one.A >= 0 && one.A < len(m.p.Starts))
		m.begin(one.A, m.takeMany(one.B), m.place)
	case impl.IBack:
		v := m.take()
		need(len(m.calls) > 1)
		m.place = m.call().back
		m.calls = m.calls[:len(m.calls)-1]
		m.lay(v)
	case impl.IEach:
		m.things, m.thing = impl.Match(m.d.State.World, m.list(one.A), m.list(one.B)), nil
	case impl.ITick:
	default:
		m.doValue(one)
	}
}

func (m *plainMachine) doValue(one impl.Ins) {
	switch one.Op {
	case impl.IPush:
		m.lay(one.V)
	case impl.ILocal:
		need(m.hasLocal(one.A))
		m.lay(m.call().locals[one.A])
	case impl.IStore:
		need(m.hasLocal(one.A))
		m.call().locals[one.A] = m.take()
	case impl.IOp:
		v, u := m.take(), m.take()
		w, code := impl.ValOp(one.A, u, v)
		if code == impl.OpZero {
			panic(plainFault(impl.FaultZero))
		}
		need(code == impl.OpDone)
		m.lay(w)
	case impl.ITurn:
		w, code := impl.ValTurn(one.A, m.take())
		need(code == impl.OpDone)
		m.lay(w)
	case impl.IPair:
		v, u := m.take(), m.take()
		w, ok := impl.ValPair(u, v)
		need(ok)
		m.lay(w)
	case impl.IForget:
		m.take()
	default:
		need(false)
	}
}

func (m *plainMachine) lead(one impl.Ins, goes bool) {
	switch one.Op {
	case impl.IUnless:
		m.take()
	case impl.ILoop:
		if n := m.take(); !goes {
			m.lay(whole(n.I - 1))
		}
	case impl.INext:
		m.thing = nil
		if !goes {
			m.thing, m.things = m.things[:1], m.things[1:]
		}
	case impl.IMore:
		if !goes {
			need(m.hasLocal(one.B))
			m.call().locals[one.B] = m.events[0]
			m.events = m.events[1:]
		}
	}
	if goes {
		m.place = one.A
	}
}

func (m *plainMachine) doWorld(one impl.Ins) {
	w := m.d.State.World
	switch one.Op {
	case impl.IComp:
		m.lay(*m.cell(one.A))
	case impl.ISetComp:
		kind := m.kindAt(impl.SortComp, one.A)
		*m.cell(one.A) = m.takeOf(kind)
	case impl.IRes:
		m.kindAt(impl.SortRes, one.A)
		m.lay(w.Res[one.A])
	case impl.ISetRes:
		kind := m.kindAt(impl.SortRes, one.A)
		w.Res[one.A] = m.takeOf(kind)
	case impl.IPick:
		list := m.list(one.A)
		need(len(list) > 0)
		m.lay(*m.cell(list[leftOf(m.takeOf(impl.KInt).I, len(list))]))
	}
}

// leftOf is what is left of a number by another one, 0 or more.
func leftOf(n, by int) int { return (n%by + by) % by }

func (m *plainMachine) doStream(one impl.Ins) {
	kind := m.kindAt(impl.SortEvt, one.A)
	s := &m.d.State
	if one.Op == impl.IHear {
		m.events, s.Cursors[one.A], _ = impl.Unread(s.Streams[one.A], s.Cursors[one.A])
		return
	}
	q, ok := impl.Send(kind, s.Streams[one.A], m.takeOf(kind))
	if !ok {
		panic(plainFault(impl.FaultFull))
	}
	s.Streams[one.A] = q
}

func (m *plainMachine) doCommand(one impl.Ins) {
	if one.Op == impl.ISpawn {
		list := m.list(one.A)
		c := impl.Cmd{Kind: impl.CmdSpawn}
		for i, v := range m.takeMany(len(list)) {
			c.List = append(c.List, cell(list[i], v))
		}
		m.write(c)
		return
	}
	need(len(m.thing) == 1)
	switch one.Op {
	case impl.IKill:
		m.write(cmdKill(m.thing[0]))
	case impl.IPut:
		m.write(cmdPut(m.thing[0], one.A, m.take()))
	case impl.IDrop:
		m.write(cmdDrop(m.thing[0], one.A))
	}
}
