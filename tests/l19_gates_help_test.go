package tests

import (
	"fmt"
	"slices"
	"strconv"
	"strings"
	"testing"

	"loop.example/g00070/impl"
)

// gatesReg has its phase behind resources of other kinds, and another whole
// number behind that.
func gatesReg() impl.Reg {
	return impl.Reg{
		Comps: []impl.Decl{decl("Hp", impl.KInt)},
		Ress:  []impl.Decl{decl("Go", impl.KBool), decl("Wind", impl.KReal), decl("Phase", impl.KInt), decl("Home", impl.KPair), decl("Stop", impl.KBool), decl("Other", impl.KInt)},
	}
}

// noPhaseReg has no resource of the kind KInt, but a column and an event of it.
func noPhaseReg() impl.Reg {
	return impl.Reg{
		Comps: []impl.Decl{decl("Hp", impl.KInt)},
		Ress:  []impl.Decl{decl("Go", impl.KBool), decl("Wind", impl.KReal), decl("Home", impl.KPair), decl("Stop", impl.KBool)},
		Evts:  []impl.Decl{decl("Hit", impl.KInt)},
	}
}

var gateWords = map[string]int{"always": impl.GateAlways, "in": impl.GateIn, "enter": impl.GateEnter, "leave": impl.GateLeave}

// gatedOf reads systems such as "every=10,when=Go,enter=-2 in=0 always", by
// gatesReg; their names are those of schedText, in order.
func gatedOf(text string) impl.Sched {
	s := impl.Sched{Reg: gatesReg(), Text: schedText()}
	for i, word := range strings.Fields(text) {
		system := impl.Sys{Name: schedNames[i]}
		setGates(&system, word)
		s.Systems = append(s.Systems, system)
	}
	return s
}

// setGates reads one word of gatedOf.
func setGates(system *impl.Sys, word string) {
	for _, part := range strings.Split(word, ",") {
		name, value, _ := strings.Cut(part, "=")
		switch name {
		case "every":
			system.Every, _ = strconv.Atoi(value)
		case "when":
			system.When = value
		default:
			system.Gate = gateWords[name]
			system.Phase, _ = strconv.Atoi(value)
		}
	}
}

// worldWith is a new world with these resources, such as "Go=1 Phase=-3".
func worldWith(r impl.Reg, text string) impl.World {
	w := cloneWorld(impl.NewWorld(r))
	for _, word := range strings.Fields(text) {
		name, value, _ := strings.Cut(word, "=")
		w.Res[impl.RegFind(r, impl.SortRes, name)].I, _ = strconv.Atoi(value)
	}
	return w
}

// behind is Clocks with a frame before.
func behind(phase int, acc ...int) impl.Clocks {
	return impl.Clocks{Acc: acc, Phase: phase, Begun: true}
}

// ahead is Clocks without one.
func ahead(acc ...int) impl.Clocks { return impl.Clocks{Acc: acc} }

// numbersIn reads numbers with blanks between.
func numbersIn(text string) []int {
	var list []int
	for _, word := range strings.Fields(text) {
		n, err := strconv.Atoi(word)
		if err != nil {
			panic(text)
		}
		list = append(list, n)
	}
	return list
}

func sameClocks(a, b impl.Clocks) bool {
	return slices.Equal(a.Acc, b.Acc) && a.Phase == b.Phase && a.Begun == b.Begun
}

func clocksText(k impl.Clocks) string {
	text := fmt.Sprintf("%.200s phase %d", numbersText(k.Acc), k.Phase)
	if !k.Begun {
		text += ", none before"
	}
	return text
}

// watch is a schedule whose frames are played one behind the other.
type watch struct {
	s impl.Sched
	k impl.Clocks
}

// watchOf is ahead of all frames.
func watchOf(systems string) *watch {
	s := gatedOf(systems)
	return &watch{s, impl.Clocks{Acc: make([]int, len(s.Systems))}}
}

// frame asks for the times and the Accs of a frame, and goes on with its
// Clocks.
func (a *watch) frame(t *testing.T, res string, tick int, times, accs string) {
	t.Helper()
	w := worldWith(a.s.Reg, res)
	next := impl.Clocks{Acc: numbersIn(accs), Phase: plainPhase(a.s.Reg, w), Begun: true}
	timesAre(t, a.s, w, a.k, tick, times, next)
	a.k = next
}

// timesAre asks for times and Clocks that are told by hand, and whether the
// plain answer is the same.
func timesAre(t *testing.T, s impl.Sched, w impl.World, k impl.Clocks, tick int, times string, next impl.Clocks) {
	t.Helper()
	list, got, ok := impl.Times(s, w, k, tick)
	if !ok || numbersText(list) != times || !sameClocks(got, next) {
		t.Errorf("Times at %s, tick %d: %v, %s, %v, not %s, %s: %s", clocksText(k), tick, list, clocksText(got), ok, times, clocksText(next), schedLine(s))
	}
	timesPlain(t, s, w, k, tick)
}

// timesPlain holds an answer that is no refusal against the plain one.
func timesPlain(t *testing.T, s impl.Sched, w impl.World, k impl.Clocks, tick int) ([]int, impl.Clocks) {
	t.Helper()
	list, next, ok := impl.Times(s, w, k, tick)
	wantList, wantNext := plainTimes(s, w, k, tick)
	if !ok || !slices.Equal(list, wantList) || !sameClocks(next, wantNext) {
		t.Fatalf("Times at %s, tick %d, resources %v: %v, %s, %v, not %v, %s: %s", clocksText(k), tick, w.Res, list, clocksText(next), ok, wantList, clocksText(wantNext), schedLine(s))
	}
	if !impl.ClocksOk(s, k) || !impl.ClocksOk(s, next) {
		t.Fatalf("ClocksOk ahead: %v, behind: %v: %s, %s: %s", impl.ClocksOk(s, k), impl.ClocksOk(s, next), clocksText(k), clocksText(next), schedLine(s))
	}
	return list, next
}

// timesRefused asks for the Clocks handed back, and no times.
func timesRefused(t *testing.T, what string, s impl.Sched, w impl.World, k impl.Clocks, tick int) {
	t.Helper()
	was := impl.Clocks{Acc: slices.Clone(k.Acc), Phase: k.Phase, Begun: k.Begun}
	list, next, ok := impl.Times(s, w, k, tick)
	if ok || len(list) != 0 || !sameClocks(next, was) || !sameClocks(k, was) {
		t.Errorf("%s: Times at %s, tick %d: %v, %s, %v: %s", what, clocksText(was), tick, list, clocksText(next), ok, schedLine(s))
	}
}

// clocksRefused asks for Clocks that are not right, also for Times.
func clocksRefused(t *testing.T, what string, s impl.Sched, w impl.World, k impl.Clocks) {
	t.Helper()
	if impl.ClocksOk(s, k) {
		t.Errorf("%s: ClocksOk: %s: %s", what, clocksText(k), schedLine(s))
	}
	for _, tick := range []int{0, 1, impl.MaxTick} {
		timesRefused(t, what, s, w, k, tick)
	}
}

func plainPhase(r impl.Reg, w impl.World) int {
	for i, d := range r.Ress {
		if d.Kind == impl.KInt {
			return w.Res[i].I
		}
	}
	return 0
}

// plainTimes is for right arguments: time is taken off an Every at a time, and
// what keeps a system from running is asked one by one as the document has it.
func plainTimes(s impl.Sched, w impl.World, k impl.Clocks, tick int) ([]int, impl.Clocks) {
	next := impl.Clocks{Phase: plainPhase(s.Reg, w), Begun: true}
	var list []int
	for i, system := range s.Systems {
		often, left := plainDue(system.Every, k.Acc[i], tick)
		if plainShut(s.Reg, system, w, k) {
			often = 0
		}
		list = append(list, min(often, impl.MaxTimes))
		next.Acc = append(next.Acc, left)
	}
	return list, next
}

// plainDue is not yet cut at MaxTimes.
func plainDue(every, acc, tick int) (int, int) {
	if every == 0 {
		return 1, acc
	}
	often, left := 0, acc+tick
	for ; left >= every; left -= every {
		often++
	}
	return often, left
}

func plainShut(r impl.Reg, system impl.Sys, w impl.World, k impl.Clocks) bool {
	for i, d := range r.Ress {
		if d.Name == system.When && w.Res[i] == yesNo(false) {
			return true
		}
	}
	phase := plainPhase(r, w)
	switch system.Gate {
	case impl.GateIn:
		return phase != system.Phase
	case impl.GateEnter:
		return phase != system.Phase || k.Begun && k.Phase == system.Phase
	case impl.GateLeave:
		return !k.Begun || k.Phase != system.Phase || phase == system.Phase
	}
	return false
}

// anyGated is a right schedule by chance with its gates by gatesReg, or by
// noPhaseReg. Phases are near each other, so that they are met.
func anyGated(d *dice) impl.Sched {
	s := impl.Sched{Reg: gatesReg(), Text: schedText()}
	if d.roll(8) == 0 {
		s.Reg = noPhaseReg()
	}
	for _, name := range schedNames[:d.roll(impl.MaxSys+1)] {
		system := impl.Sys{Name: name, When: oneOf(d, []string{"", "", "Go", "Stop"}), Every: anyEvery(d)}
		if d.roll(4) > 0 && len(namesOf(s.Reg.Ress, impl.KInt)) > 0 {
			system.Gate = oneOf(d, schedGates[1:])
			system.Phase = anyPhase(d)
		}
		s.Systems = append(s.Systems, system)
	}
	return s
}

func anyEvery(d *dice) int {
	switch d.roll(5) {
	case 0:
		return 0
	case 1:
		return 1 + d.roll(5)
	case 2:
		return 1 + d.roll(1000)
	case 3:
		return impl.MaxEvery - d.roll(3)
	}
	return 1 + d.roll(impl.MaxEvery)
}

func anyPhase(d *dice) int { return oneOf(d, []int{0, 0, 1, 1, 2, -1, leastInt, mostInt}) }

func anyTick(d *dice) int {
	switch d.roll(5) {
	case 0:
		return 0
	case 1:
		return 1 + d.roll(10)
	case 2:
		return d.roll(3000)
	case 3:
		return impl.MaxTick - d.roll(3)
	}
	return d.roll(impl.MaxTick + 1)
}

// anyRes is a world by chance: its resources, and here and there things.
func anyRes(d *dice, r impl.Reg) impl.World {
	w := cloneWorld(impl.NewWorld(r))
	for i, decl := range r.Ress {
		switch decl.Kind {
		case impl.KBool:
			w.Res[i] = yesNo(d.roll(2) == 0)
		case impl.KInt:
			w.Res[i] = whole(anyPhase(d))
		case impl.KReal:
			w.Res[i] = float(oneOf(d, []float64{0, negZero, nan, inf, 1}))
		case impl.KPair:
			w.Res[i] = pair(float64(d.roll(3)), nan)
		}
	}
	for range d.roll(3) {
		w, _, _ = impl.Spawn(r, w, []impl.Cell{cell(0, whole(d.roll(9)))})
	}
	return w
}

// anyClocks is right by that schedule.
func anyClocks(d *dice, s impl.Sched) impl.Clocks {
	k := impl.Clocks{Phase: anyPhase(d), Begun: d.roll(3) > 0}
	for range s.Systems {
		k.Acc = append(k.Acc, oneOf(d, []int{0, 0, 1, d.roll(1000), d.roll(4000001), 4000000}))
	}
	return k
}
