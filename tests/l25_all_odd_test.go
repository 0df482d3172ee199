package tests

import (
	"reflect"
	"slices"
	"strings"

	"loop.example/g00070/impl"
)

var (
	allInts = []int{
		0, 1, 2, 3, 4, 5, 6, 7, 8, 9, 10, -1, -2, -3, 11, 12, 13, 15, 16, 17, 31, 32, 33, 63, 64, 65, 127, 128, 255, 256, 257, 1000, 4000, 4001, -777,
		1 << 16, 1<<31 - 1, 1 << 31, -1 << 31, 1 << 32, 1<<32 + 1, -1 << 32, 999999999999999, 1000000000000000, leastInt, leastInt + 1, mostInt - 1, mostInt,
	}
	allTexts = []string{
		"", " ", "\n", "\x00", "\xff", "\xc3\x28", "é", "日本", "�", "\u2028", "a", "A", "b", "Hp", "Score", "Over", "Hit", "One", "let", "int", "system", "fn", "yes", "nope", "abcdefghijkl", "abcdefghijklm",
		"0", "00", "-0", "1", "1.5", ".5", "1.", "1e9", "0x1", "999999999999999", "1000000000000000", "1.1234567", "nan", "inf",
		"system a { }", "system a { $Score = 1 / 0; }\nsystem b { loop 9999 { } }", "fn f() int { return 1; }", "system a { let x = ; }", "system a {", "}", "((((", "a.b", "$", "\"a\"", "# a remark", "system a { each with No { } }",
		"start\nframe 1 1\nshow", "comp Hp int\nstart\nspawn Hp\nshow", "text 1\nsystem a { }\nsystem a\nplan\nclashes\nstart\nframe 9 8 7 6 5", "text 99", "frame", "every 1", "spawn\nset a b",
	}
)

func oddText(d *dice) string {
	switch d.roll(12) {
	case 0:
		bytes := make([]byte, d.roll(40))
		for i := range bytes {
			bytes[i] = byte(d.roll(256))
		}
		return string(bytes)
	case 1:
		return strings.Repeat(oneOf(d, []string{"a", "(", "\xff", "1", "x ", "\n", "system a { }\n"}), oneOf(d, []int{12, 13, 300, 3999, 4000, 4001, 20001}))
	}
	return oneOf(d, allTexts)
}

// oddOf is any value of a type; deep tells how many lists it stands in.
func oddOf(d *dice, of reflect.Type, deep int) reflect.Value {
	v := reflect.New(of).Elem()
	switch of.Kind() {
	case reflect.Int:
		v.SetInt(int64(oneOf(d, allInts)))
	case reflect.Float64:
		v.SetFloat(oneOf(d, someFloats))
	case reflect.String:
		v.SetString(oddText(d))
	case reflect.Bool:
		v.SetBool(d.roll(2) == 0)
	case reflect.Struct:
		for i := range v.NumField() {
			v.Field(i).Set(oddOf(d, v.Field(i).Type(), deep))
		}
	case reflect.Slice:
		n := oneOf(d, []int{0, 0, 0, 1, 1, 2, 3})
		if deep == 0 && d.roll(20) == 0 {
			n = oneOf(d, []int{16, 17, 33, 64, 65, 130, 260, 1030})
		}
		if n == 0 && d.roll(2) == 0 {
			return v
		}
		v.Set(reflect.MakeSlice(of, n, n))
		for i := range n {
			v.Index(i).Set(oddOf(d, of.Elem(), deep+1))
		}
	}
	return v
}

// marred is a value with one thing in it that is not as it was.
func marred(d *dice, v reflect.Value) reflect.Value {
	c := reflect.New(v.Type()).Elem()
	c.Set(copied(v))
	mar(d, c)
	return c
}

func mar(d *dice, v reflect.Value) {
	switch v.Kind() {
	case reflect.Struct:
		mar(d, v.Field(d.roll(v.NumField())))
	case reflect.Slice:
		marList(d, v)
	case reflect.Int:
		v.SetInt(oneOf(d, []int64{v.Int() + 1, v.Int() - 1, -v.Int(), int64(oneOf(d, allInts))}))
	case reflect.String:
		v.SetString(marText(d, v.String()))
	default:
		v.Set(oddOf(d, v.Type(), 1))
	}
}

func marText(d *dice, text string) string {
	at := d.roll(len(text) + 1)
	switch d.roll(4) {
	case 0:
		return text[:at]
	case 1:
		return text[:at] + oddText(d) + text[at:]
	case 2:
		return text[:at] + text[min(at+1+d.roll(3), len(text)):]
	}
	return oddText(d)
}

func marList(d *dice, v reflect.Value) {
	n, elem := v.Len(), v.Type().Elem()
	if n == 0 {
		v.Set(reflect.Append(v, oddOf(d, elem, 1)))
		return
	}
	at := d.roll(n)
	switch d.roll(8) {
	case 0:
		v.Set(reflect.Append(v, oddOf(d, elem, 1)))
	case 1:
		v.Set(reflect.Append(v, copied(v.Index(at))))
	case 2:
		v.Set(reflect.AppendSlice(v.Slice(0, at), v.Slice(at+1, n)))
	case 3:
		one, other := copied(v.Index(at)), copied(v.Index(d.roll(n)))
		v.Index(d.roll(n)).Set(one)
		v.Index(at).Set(other)
	case 4:
		v.SetLen(at)
	default:
		mar(d, v.Index(at))
	}
}

// rights is right values of each type, of which many fit one another.
type rights map[reflect.Type][]reflect.Value

func (r rights) put(values ...any) {
	for _, one := range values {
		v := reflect.ValueOf(one)
		r[v.Type()] = append(r[v.Type()], v)
	}
}

// anyRights has one schedule, with its game, its texts and trees, and all that
// these lead to.
func anyRights(w *author) rights {
	d := &w.dice
	s := anySideShow(w)
	r := rights{}
	x, _, _ := impl.Parse(s.Text)
	g := anyGame(d, s)
	r.put(s, s.Reg, s.Text, x, g, g.World, g.World.Ents, g.Clocks, anyState(d, s.Reg))
	r.putThings(d, s, g)
	for _, top := range x.Tops {
		name := x.Nodes[top].Text
		e, _ := impl.Effects(s.Reg, x, name)
		p, ok := impl.Compile(s.Reg, x, name)
		r.put(name, e)
		if ok {
			r.put(p)
		}
	}
	for i := range s.Systems {
		state := stateOf(g, i)
		done := impl.Mean(s.Reg, x, s.Systems[i].Name, state, 200)
		r.put(i, s.Systems[i].Name, state, done.Cmds, [][]impl.Cmd{done.Cmds, nil, done.Cmds}, cmd(impl.CmdKill, impl.Ent{}))
		for _, c := range done.Cmds {
			r.put(c, c.List)
		}
	}
	r.putGraphs(d, s)
	r.put(anyDesk(w, s), anyDesk(w, s), "start\nframe 1 1\nshow", "0.5", "12.250", "3.125", "1.")
	r.put(impl.Effect{}, impl.Program{}, []impl.Cmd{}, [][]impl.Cmd{}, impl.Cmd{Kind: impl.CmdSpawn})
	return r
}

func cmd(kind int, who impl.Ent) impl.Cmd { return impl.Cmd{Kind: kind, Who: who} }

// putThings puts the parts of the game: things, values, streams, names.
func (r rights) putThings(d *dice, s impl.Sched, g impl.Game) {
	for _, e := range append(impl.EntList(g.World.Ents), impl.Ent{}, impl.Ent{At: 3, Gen: 1}) {
		r.put(e, cmd(impl.CmdKill, e))
	}
	for kind := 1; kind <= 4; kind++ {
		r.put(kind, anyOf(d, kind), anyOf(d, kind))
	}
	var list []impl.Cell
	for i, one := range s.Reg.Comps {
		v := anyOf(d, one.Kind)
		list = append(list, cell(i, v))
		r.put(one.Name, i, []int{i, len(s.Reg.Comps) - 1}, []impl.Cell{cell(i, v)}, impl.Cmd{Kind: impl.CmdPut, Who: impl.Ent{At: i}, Comp: i, Val: v})
	}
	r.put(list, []impl.Cell{}, []int{}, []int{0})
	for i, one := range s.Reg.Evts {
		r.put(one.Name, g.Streams[i], g.Streams[i].First, one.Kind)
	}
	for _, one := range s.Reg.Ress {
		r.put(one.Name)
	}
	for _, list := range g.Cursors {
		r.put(list)
	}
	r.put(anyTick(d), anyFuel(d), 1, 100, d.roll(9))
}

// putGraphs puts the schedule's plan, another graph, and what is made of them.
func (r rights) putGraphs(d *dice, s impl.Sched) {
	p, _, _ := impl.MakePlan(s)
	r.put(p, impl.Plan{}, p.Order, p.Edges, len(p.Order))
	other := anyGraph(d, d.roll(oneOf(d, []int{impl.MaxMeet, impl.MaxMeet, impl.MaxLinear})+1))
	for i := range 8 {
		r.put(other.n, other.edges, min(i, max(0, other.n-1)))
	}
	picks := anyPicks(d, 20)
	moves, _ := impl.PoolRun(other.n, other.edges, 2, picks)
	order, _ := impl.Canon(other.n, other.edges)
	r.put(picks, moves, moves[:d.roll(len(moves)+1)], order, order)
	var orders [][]int
	for stage := range impl.Stages(p) {
		orders = append(orders, slices.DeleteFunc(slices.Clone(p.Order), func(system int) bool { return p.Stage[system] != stage }))
	}
	r.put(orders, [][]int{}, anyBeats(d, 4), anyBeats(d, 0), anyMoves(d, 6))
}

// anyArguments is arguments of which some fit, some have one thing wrong, and
// some are all odd.
func (r rights) anyArguments(d *dice, name string) some {
	of := reflect.TypeOf(allCalls[name])
	wild := d.roll(5)
	var args some
	for i := range of.NumIn() {
		list := r[of.In(i)]
		switch {
		case len(list) == 0 || wild > 0 && d.roll(8) == 0:
			args = append(args, oddOf(d, of.In(i), 0))
		case wild > 2 && d.roll(2) == 0:
			args = append(args, marred(d, oneOf(d, list)))
		case i > 0 && of.In(i-1) == of.In(i) && d.roll(3) == 0:
			args = append(args, args[i-1])
		default:
			args = append(args, oneOf(d, list))
		}
	}
	return args
}
