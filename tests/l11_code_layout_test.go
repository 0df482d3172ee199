package tests

import (
	"slices"
	"testing"

	"loop.example/g00070/impl"
)

// layout tells a program without writing it in a row: how long each node's
// code is comes first, then each instruction is laid at the place that follows
// from these lengths, in whatever order. Locals and functions are looked up
// from a node upwards, and numbered by counting those ahead of them.
type layout struct {
	*audit
	at    map[int]impl.Ins
	lists map[int][][]int // by the places of the instructions that name them
}

func newLayout(r impl.Reg, x impl.Tree) *layout {
	return &layout{newAudit(r, x), map[int]impl.Ins{}, map[int][][]int{}}
}

// ownLength is how many instructions a node has beside those of its kids.
func (l *layout) ownLength(n impl.Node) int {
	switch n.Kind {
	case impl.NBlock, impl.NCell, impl.NWith, impl.NWithout, impl.NName, impl.NParam, impl.NFn:
		return 0
	case impl.NIf:
		return len(n.Kids) // the tick, the unless, and the jump if there is a third kid
	case impl.NLoop:
		return 3
	case impl.NEach, impl.NHear:
		return 4
	case impl.NSystem:
		return 1
	}
	if n.Kind >= impl.NLet {
		return 2
	}
	return 1
}

func (l *layout) length(node int) int {
	n := l.t.Nodes[node]
	return l.ownLength(n) + l.lengths(n.Kids)
}

func (l *layout) lengths(nodes []int) int {
	sum := 0
	for _, node := range nodes {
		sum += l.length(node)
	}
	return sum
}

func (l *layout) put(at, op, a, b int) { l.at[at] = impl.Ins{Op: op, A: a, B: b} }

// lay puts the code of a node to its place, the last of its instructions
// ahead of those of its kids.
func (l *layout) lay(node, at int) {
	n := l.t.Nodes[node]
	end := at + l.length(node)
	if n.Kind >= impl.NLet && n.Kind <= impl.NReturn {
		l.put(at, impl.ITick, 0, 0)
		at++
	}
	switch n.Kind {
	case impl.NIf:
		l.choice(n, at, end)
	case impl.NLoop:
		behind := at + l.length(n.Kids[0])
		l.put(end-1, impl.IJump, behind, 0)
		l.put(behind, impl.ILoop, end, 0)
		l.lay(n.Kids[1], behind+1)
		l.lay(n.Kids[0], at)
	case impl.NEach:
		l.put(end-1, impl.IJump, at+1, 0)
		l.put(at+1, impl.INext, end, 0)
		l.put(at, impl.IEach, 0, 0)
		l.lists[at] = [][]int{l.columns(l.t.Nodes[n.Kids[0]].Kids), l.columns(l.t.Nodes[n.Kids[1]].Kids)}
		l.lay(n.Kids[2], at+2)
	case impl.NHear:
		l.put(end-1, impl.IJump, at+1, 0)
		l.put(at+1, impl.IMore, end, l.local(n.Kids[0]))
		l.put(at, impl.IHear, l.find(impl.SortEvt, n.Text), 0)
		l.lay(n.Kids[1], at+2)
	default:
		l.plain(node, n, end-1)
		for _, kid := range n.Kids {
			l.lay(kid, at)
			at += l.length(kid)
		}
	}
}

func (l *layout) choice(n impl.Node, at, end int) {
	behind := at + l.length(n.Kids[0])
	then := l.length(n.Kids[1])
	if len(n.Kids) == 3 {
		l.put(behind+1+then, impl.IJump, end, 0)
		l.put(behind, impl.IUnless, behind+2+then, 0)
		l.lay(n.Kids[2], behind+2+then)
	} else {
		l.put(behind, impl.IUnless, end, 0)
	}
	l.lay(n.Kids[1], behind+1)
	l.lay(n.Kids[0], at)
}

// plain lays the one instruction of a node whose kids' code stands ahead.
func (l *layout) plain(node int, n impl.Node, at int) {
	column := map[int]int{impl.NComp: impl.IComp, impl.NSetComp: impl.ISetComp, impl.NPut: impl.IPut, impl.NDrop: impl.IDrop}
	bare := map[int]int{impl.NPair: impl.IPair, impl.NKill: impl.IKill, impl.NDo: impl.IForget, impl.NReturn: impl.IBack, impl.NSystem: impl.IEnd}
	switch n.Kind {
	case impl.NInt:
		l.at[at] = impl.Ins{Op: impl.IPush, V: whole(n.I)}
	case impl.NReal:
		l.at[at] = impl.Ins{Op: impl.IPush, V: pushedVal(n.Text)}
	case impl.NYesNo:
		l.at[at] = impl.Ins{Op: impl.IPush, V: yesNo(n.I == 1)}
	case impl.NLocal:
		l.put(at, impl.ILocal, l.local(l.seen(node, n.Text)), 0)
	case impl.NLet:
		l.put(at, impl.IStore, l.local(node), 0)
	case impl.NStore:
		l.put(at, impl.IStore, l.local(l.seen(node, n.Text)), 0)
	case impl.NRes:
		l.put(at, impl.IRes, l.find(impl.SortRes, n.Text), 0)
	case impl.NSetRes:
		l.put(at, impl.ISetRes, l.find(impl.SortRes, n.Text), 0)
	case impl.NEmit:
		l.put(at, impl.IEmit, l.find(impl.SortEvt, n.Text), 0)
	case impl.NComp, impl.NSetComp, impl.NPut, impl.NDrop:
		l.put(at, column[n.Kind], l.find(impl.SortComp, n.Text), 0)
	case impl.NOp:
		l.put(at, impl.IOp, n.I, 0)
	case impl.NTurn:
		l.put(at, impl.ITurn, n.I, 0)
	case impl.NCall:
		l.put(at, impl.ICall, slices.Index(l.fns(), l.fnAhead(node, n.Text)), len(n.Kids))
	case impl.NPick:
		l.put(at, impl.IPick, 0, 0)
		l.lists[at] = [][]int{l.columns(n.Kids[1:])}
	case impl.NSpawn:
		l.put(at, impl.ISpawn, 0, 0)
		l.lists[at] = [][]int{l.columns(n.Kids)}
	case impl.NPair, impl.NKill, impl.NDo, impl.NReturn, impl.NSystem:
		l.put(at, bare[n.Kind], 0, 0)
	}
}

func (l *layout) columns(nodes []int) []int {
	var list []int
	for _, name := range l.texts(nodes) {
		list = append(list, l.find(impl.SortComp, name))
	}
	return list
}

// fns is the numbers of the nodes of all functions.
func (l *layout) fns() []int {
	return slices.DeleteFunc(slices.Clone(l.t.Tops), func(top int) bool { return l.t.Nodes[top].Kind != impl.NFn })
}

func (l *layout) isLocal(node int) bool {
	kind := l.t.Nodes[node].Kind
	return kind == impl.NParam || kind == impl.NLet || kind == impl.NName && l.t.Nodes[l.above[node]].Kind == impl.NHear
}

// locals is the numbers of the nodes of a top's locals.
func (l *layout) locals(top int) []int {
	var list []int
	for node := range l.t.Nodes {
		if l.isLocal(node) && l.topOf(node) == top {
			list = append(list, node)
		}
	}
	return list
}

func (l *layout) local(node int) int { return slices.Index(l.locals(l.topOf(node)), node) }

// program is that of a system.
func (l *layout) program(system int) impl.Program {
	var p impl.Program
	length := 0
	for _, top := range append(l.fns(), system) {
		p.Starts = append(p.Starts, length)
		p.Slots = append(p.Slots, len(l.locals(top)))
		l.lay(top, length)
		length += l.length(top)
	}
	for at := range length {
		one := l.at[at]
		for i, list := range l.lists[at] {
			if i == 0 {
				one.A = len(p.Lists)
			} else {
				one.B = len(p.Lists)
			}
			p.Lists = append(p.Lists, list)
		}
		p.Code = append(p.Code, one)
	}
	return p
}

// keepsToItself asks what the promise says of any program: functions stand one
// behind the other, what leads somewhere leads into its own function, locals
// are its own, and lists, columns, resources and streams are there.
func keepsToItself(t *testing.T, r impl.Reg, p impl.Program) {
	t.Helper()
	if len(p.Starts) == 0 || len(p.Starts) != len(p.Slots) || p.Starts[0] != 0 {
		t.Fatalf("Starts and Slots:%s", progText(p))
	}
	lists := 0
	for f, start := range p.Starts {
		end := len(p.Code)
		if f+1 < len(p.Starts) {
			end = p.Starts[f+1]
		}
		if start >= end || end > len(p.Code) {
			t.Fatalf("function %d has no code of its own:%s", f, progText(p))
		}
		for at := start; at < end; at++ {
			if wrong := wrongIn(r, p, f, start, end, at, &lists); wrong != "" {
				t.Fatalf("at %d: %s:%s", at, wrong, progText(p))
			}
		}
		oneHeight(t, p, f, start, end)
	}
	if lists != len(p.Lists) {
		t.Fatalf("%d lists are named:%s", lists, progText(p))
	}
}

// wrongIn tells what is wrong with one instruction, counting the lists that
// are named.
func wrongIn(r impl.Reg, p impl.Program, f, start, end, at int, lists *int) string {
	one := p.Code[at]
	plain := impl.Ins{Op: one.Op}
	last := f == len(p.Starts)-1
	switch one.Op {
	case impl.IPush:
		plain.V = one.V
		if !impl.ValOk(one.V) || one.V.Kind == impl.KPair {
			return "a value that no text can name"
		}
	case impl.ILocal, impl.IStore:
		plain.A = one.A
		if one.A < 0 || one.A >= p.Slots[f] {
			return "a local that is none"
		}
	case impl.IMore:
		plain.A, plain.B = one.A, one.B
		if one.B < 0 || one.B >= p.Slots[f] || one.A != leftBy(p, at) {
			return "a local or a place that is none"
		}
	case impl.IComp, impl.ISetComp, impl.IPut, impl.IDrop:
		plain.A = one.A
		if impl.RegKind(r, impl.SortComp, one.A) == 0 {
			return "a column that is none"
		}
	case impl.IRes, impl.ISetRes:
		plain.A = one.A
		if impl.RegKind(r, impl.SortRes, one.A) == 0 {
			return "a resource that is none"
		}
	case impl.IHear, impl.IEmit:
		plain.A = one.A
		if impl.RegKind(r, impl.SortEvt, one.A) == 0 {
			return "a stream that is none"
		}
	case impl.IOp, impl.ITurn:
		plain.A = one.A
	case impl.ICall:
		plain.A, plain.B = one.A, one.B
		if one.A < 0 || one.A >= f || one.B < 0 || one.B > p.Slots[one.A] {
			return "a function that is not ahead, or has too few locals"
		}
	case impl.IPick, impl.ISpawn, impl.IEach:
		plain.A = one.A
		if !nextList(r, p, one.A, lists) {
			return "a list that is not the next one"
		}
		if one.Op == impl.IEach {
			plain.B = one.B
			if !nextList(r, p, one.B, lists) {
				return "a second list that is not the next one"
			}
		}
	case impl.IJump, impl.IUnless, impl.ILoop, impl.INext:
		plain.A = one.A
		if one.A < start || one.A >= end {
			return "a place outside of the function"
		}
		if one.Op != impl.IJump && one.A <= at || (one.Op == impl.ILoop || one.Op == impl.INext) && one.A != leftBy(p, at) {
			return "a place that is not behind"
		}
	case impl.IBack:
		if last || at != end-1 {
			return "the way back stands elsewhere than at a function's end"
		}
	case impl.IEnd:
		if !last || at != end-1 {
			return "the end stands elsewhere than at the program's end"
		}
	}
	if at == end-1 && one.Op != impl.IBack && one.Op != impl.IEnd {
		return "the function goes on into the next one"
	}
	if !sameIns(one, plain) {
		return "a field that is not named is not 0"
	}
	return ""
}

// leftBy is the place behind the last jump that leads back to a place; -1
// where none does.
func leftBy(p impl.Program, at int) int {
	behind := -1
	for i, one := range p.Code {
		if one.Op == impl.IJump && one.A == at {
			behind = i + 1
		}
	}
	return behind
}

func nextList(r impl.Reg, p impl.Program, number int, lists *int) bool {
	if number != *lists || number >= len(p.Lists) {
		return false
	}
	*lists++
	return !slices.ContainsFunc(p.Lists[number], func(n int) bool { return impl.RegKind(r, impl.SortComp, n) == 0 })
}

// stackOf is how many values an instruction takes from the stack, and how many
// it lays on it where it does not go to its A.
func stackOf(p impl.Program, one impl.Ins) (taken, laid int) {
	switch one.Op {
	case impl.IPush, impl.ILocal, impl.IComp, impl.IRes:
		return 0, 1
	case impl.IStore, impl.ISetComp, impl.ISetRes, impl.IForget, impl.IEmit, impl.IPut, impl.IUnless, impl.IBack:
		return 1, 0
	case impl.IOp, impl.IPair:
		return 2, 1
	case impl.ITurn, impl.IPick, impl.ILoop:
		return 1, 1
	case impl.ICall:
		return one.B, 1
	case impl.ISpawn:
		return len(p.Lists[one.A]), 0
	}
	return 0, 0
}

// oneHeight asks that each instruction of a function is come to, with one
// height of the stack whichever way leads there, and that none takes what is
// not there.
func oneHeight(t *testing.T, p impl.Program, f, start, end int) {
	t.Helper()
	heights := map[int]int{start: 0}
	todo := []int{start}
	for len(todo) > 0 {
		at := todo[0]
		todo = todo[1:]
		one := p.Code[at]
		taken, laid := stackOf(p, one)
		left := heights[at] - taken
		ends := one.Op == impl.IBack || one.Op == impl.IEnd
		if left < 0 || ends && left != 0 {
			t.Fatalf("at %d the stack has %d:%s", at, heights[at], progText(p))
		}
		ways := map[int]int{}
		if !ends && one.Op != impl.IJump {
			ways[at+1] = left + laid
		}
		switch one.Op {
		case impl.IJump, impl.IUnless, impl.ILoop, impl.INext, impl.IMore:
			if h, both := ways[one.A]; both && h != left {
				t.Fatalf("at %d two ways lead to one place:%s", at, progText(p))
			}
			ways[one.A] = left
		}
		for to, height := range ways {
			was, known := heights[to]
			if known && was != height {
				t.Fatalf("from %d to %d with %d, not %d:%s", at, to, height, was, progText(p))
			}
			if !known {
				heights[to] = height
				todo = append(todo, to)
			}
		}
	}
	if len(heights) != end-start {
		t.Fatalf("of function %d not every place is come to:%s", f, progText(p))
	}
}
