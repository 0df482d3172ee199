package tests

import (
	"slices"
	"testing"

	"loop.example/g00070/impl"
)

// mutate turns one thing of a program into another one.
func mutate(d *dice, p *impl.Program) {
	if len(p.Code) == 0 {
		return
	}
	one := &p.Code[d.roll(len(p.Code))]
	switch d.roll(10) {
	case 0:
		one.A += 1 - 2*d.roll(2)
	case 1:
		one.B += 1 - 2*d.roll(2)
	case 2:
		one.A = d.roll(len(p.Code))
	case 3:
		one.V = anyOf(d, 1+d.roll(4))
	case 4:
		one.Op = d.roll(impl.IEnd + 2)
	case 5:
		at := d.roll(len(p.Code))
		p.Code = slices.Delete(p.Code, at, at+1)
	case 6:
		p.Code = slices.Insert(p.Code, d.roll(len(p.Code)), anyIns(d, len(p.Code)))
	case 7:
		p.Slots[d.roll(len(p.Slots))] += 1 - 2*d.roll(2)
	case 8:
		p.Starts[d.roll(len(p.Starts))] = d.roll(len(p.Code))
	case 9:
		if len(p.Lists) > 0 {
			at := d.roll(len(p.Lists))
			p.Lists[at] = append(slices.Clone(p.Lists[at]), d.roll(9))
		}
	}
}

func anyIns(d *dice, places int) impl.Ins {
	one := impl.Ins{Op: 1 + d.roll(impl.IEnd), A: d.roll(5), B: d.roll(3)}
	switch one.Op {
	case impl.IPush:
		one.V = anyOf(d, 1+d.roll(4))
	case impl.IJump, impl.IUnless, impl.ILoop, impl.INext, impl.IMore:
		one.A = d.roll(places + 1)
	case impl.IOp:
		one.A = 1 + d.roll(9)
	case impl.IPick, impl.ISpawn:
		one.A = d.roll(4)
	}
	return one
}

// Compiled texts with some instructions turned: each run is that of the plain
// machine, and by its fuel what a run must be.
func TestTurnedCode(t *testing.T) {
	w := newAuthor(122)
	d := dice(123)
	met := map[int]int{}
	for range 250 {
		x := treeOf(w.text(5, 2)...)
		s := anyState(&d, checkReg())
		for _, top := range x.Tops {
			p, ok := impl.Compile(checkReg(), x, x.Nodes[top].Text)
			if !ok || len(p.Code) > 200 {
				continue
			}
			for range 6 {
				q := cloneProgram(p)
				for range 1 + d.roll(3) {
					mutate(&d, &q)
				}
				met[byFuel(t, checkReg(), q, s).Fault]++
			}
		}
	}
	if met[impl.FaultNone] < 150 || met[impl.FaultCode] < 150 || met[impl.FaultFuel] < 10 || met[impl.FaultZero] < 10 || met[impl.FaultFull] < 5 {
		t.Error("too few were met:", met)
	}
}

// coder writes programs by chance whose instructions find the values that they
// take for the most part, with ways that lead anywhere.
type coder struct {
	dice
	kinds []int // of the values on the stack, as far as that can be told
	code  []impl.Ins
}

func (c *coder) lays(kind int, one impl.Ins) {
	c.kinds = append(c.kinds, kind)
	c.code = append(c.code, one)
}

func (c *coder) takes(n int, one impl.Ins) {
	c.kinds = c.kinds[:len(c.kinds)-n]
	c.code = append(c.code, one)
}

// one writes an instruction that fits.
func (c *coder) one(places int) {
	kind := 1 + c.roll(4)
	top := 0
	if len(c.kinds) > 0 {
		top = c.kinds[len(c.kinds)-1]
	}
	switch {
	case c.roll(25) == 0:
		c.code = append(c.code, anyIns(&c.dice, places))
	case c.roll(4) == 0:
		c.bare(places)
	case top == 0 || c.roll(3) == 0:
		switch c.roll(3) {
		case 0:
			c.lays(kind, impl.Ins{Op: impl.IRes, A: kind - 1})
		case 1:
			c.lays(kind, impl.Ins{Op: impl.ILocal, A: kind - 1})
		default:
			c.lays(kind, impl.Ins{Op: impl.IPush, V: anyOf(&c.dice, kind)})
		}
	case len(c.kinds) > 1 && c.kinds[len(c.kinds)-2] == top && c.roll(3) > 0:
		op := 1 + c.roll(9)
		if to := opResult(op, top, top); to != 0 {
			c.takes(2, impl.Ins{Op: impl.IOp, A: op})
			c.kinds = append(c.kinds, to)
		}
	default:
		c.down(top, places)
	}
}

// bare writes one that neither takes nor lays.
func (c *coder) bare(places int) {
	ops := []int{impl.IEach, impl.INext, impl.INext, impl.IHear, impl.IMore, impl.ITick, impl.ITick, impl.IJump, impl.IKill, impl.IDrop}
	one := impl.Ins{Op: oneOf(&c.dice, ops), A: c.roll(4)}
	switch one.Op {
	case impl.INext, impl.IMore, impl.IJump:
		one.A = len(c.code) + 1 + c.roll(3)
		if c.roll(4) == 0 {
			one.A = c.roll(places)
		}
	case impl.IEach:
		one.A, one.B = c.roll(2), 2+c.roll(2)
	}
	if one.Op == impl.IMore {
		one.B = 4
	}
	c.code = append(c.code, one)
}

// down writes one that takes the top of the stack.
func (c *coder) down(top, places int) {
	ops := []int{impl.IStore, impl.ISetRes, impl.IForget, impl.IEmit, impl.ISetComp, impl.IPut, impl.ITurn}
	switch top {
	case impl.KBool:
		ops = append(ops, impl.IUnless, impl.IUnless, impl.IUnless)
	case impl.KInt:
		ops = append(ops, impl.ILoop, impl.ILoop, impl.ICall, impl.ISpawn)
	}
	one := impl.Ins{Op: oneOf(&c.dice, ops), A: top - 1}
	switch one.Op {
	case impl.IUnless:
		one.A = len(c.code) + 1 + c.roll(3)
	case impl.ILoop:
		one.A = len(c.code) + 1 + c.roll(5)
		c.takes(0, one)
		return
	case impl.ICall:
		c.takes(0, impl.Ins{Op: impl.ICall, A: 0, B: 1})
		return
	case impl.ISpawn:
		one.A = 1
	case impl.ITurn:
		one.A = 1 + c.roll(6)
		to := turnResult(one.A, top)
		if to == 0 {
			return
		}
		c.takes(1, one)
		c.kinds = append(c.kinds, to)
		return
	}
	if c.roll(6) == 0 && one.Op == impl.IUnless {
		one.A = c.roll(places)
	}
	c.takes(1, one)
}

func (c *coder) program(length int) impl.Program {
	c.code = codeOf("Local 0, Push 1, Op 1, Tick, Back, Push 3, Store 0, Push 0.5, Store 1, Res 2, Store 2, Push yes, Store 3, Each 0 2, Next 15")
	c.kinds = nil
	for len(c.code) < length {
		c.one(length)
	}
	c.code = append(c.code, impl.Ins{Op: impl.IEnd})
	return impl.Program{Code: c.code, Starts: []int{0, 5}, Slots: []int{1, 5}, Lists: [][]int{{0, 1, 2, 3}, {0}, nil, {7}}}
}

// Programs that no text comes to: each run is that of the plain machine.
func TestAnyCodeRuns(t *testing.T) {
	c := &coder{dice: dice(124)}
	met, ops := map[int]int{}, map[int]int{}
	for range 1000 {
		p := c.program(20 + c.roll(60))
		s := anyState(&c.dice, checkReg())
		if c.roll(4) > 0 {
			s.World = runWorld()
		}
		d := byFuel(t, checkReg(), p, s)
		met[d.Fault]++
		if d.Steps > 5 {
			for _, one := range p.Code {
				ops[one.Op]++
			}
		}
	}
	if met[impl.FaultNone] < 40 || met[impl.FaultCode] < 200 || met[impl.FaultFuel] < 20 || len(ops) < impl.IEnd-2 {
		t.Error("too few were met:", met, len(ops))
	}
}

// Any numbers in any place: nothing panics, and all is that of the plain
// machine.
func TestStrangeCode(t *testing.T) {
	d := dice(125)
	strange := []int{leastInt, leastInt + 1, -1 << 32, -2, -1, 0, 1, 2, 3, 4, 5, 7, 8, 9, 10, 28, 29, 255, 256, impl.MaxStack, impl.MaxStack + 1, 1 << 32, mostInt - 1, mostInt}
	any := func() int {
		if d.roll(3) > 0 {
			return d.roll(8)
		}
		return oneOf(&d, strange)
	}
	vals := append(wrongValues(), rightValues()...)
	for range 4000 {
		var p impl.Program
		for range d.roll(12) {
			one := impl.Ins{Op: d.roll(impl.IEnd + 1), A: any(), B: any(), V: oneOf(&d, vals)}
			if d.roll(9) == 0 {
				one.Op = any()
			}
			p.Code = append(p.Code, one)
		}
		for range d.roll(4) {
			p.Starts = append(p.Starts, any())
			p.Slots = append(p.Slots, any())
		}
		if d.roll(9) == 0 {
			p.Slots = append(p.Slots, 0)
		}
		for range d.roll(5) {
			var list []int
			for range d.roll(4) {
				list = append(list, any())
			}
			p.Lists = append(p.Lists, list)
		}
		ran(t, checkReg(), p, runState(), any())
	}
}
