package tests

import (
	"fmt"
	"regexp"
	"slices"
	"strconv"
	"strings"
	"testing"

	"loop.example/g00070/impl"
)

// deskRows is the document's table: the words of each order, with one blank
// between them.
var deskRows = map[string]*regexp.Regexp{
	"comp":    regexp.MustCompile(`^comp ([^ ]+) (int|real|pair|bool)$`),
	"res":     regexp.MustCompile(`^res ([^ ]+) (int|real|pair|bool)$`),
	"event":   regexp.MustCompile(`^event ([^ ]+) (int|real|pair|bool)$`),
	"text":    regexp.MustCompile(`^text (0|[1-9][0-9]{0,8})$`),
	"system":  regexp.MustCompile(`^system ([^ ]+)(( [^ ]+)*)$`),
	"when":    regexp.MustCompile(`^when ([^ ]+)$`),
	"every":   regexp.MustCompile(`^every (0|[1-9][0-9]{0,8})$`),
	"gate":    regexp.MustCompile(`^gate (0|[1-9][0-9]{0,8}) (0|[1-9][0-9]{0,8})$`),
	"order":   regexp.MustCompile(`^order ([^ ]+) ([^ ]+)$`),
	"strict":  regexp.MustCompile(`^strict$`),
	"plan":    regexp.MustCompile(`^plan$`),
	"clashes": regexp.MustCompile(`^clashes$`),
	"start":   regexp.MustCompile(`^start$`),
	"spawn":   regexp.MustCompile(`^spawn(( [^ ]+)*)$`),
	"set":     regexp.MustCompile(`^set ([^ ]+) ([^ ]+)$`),
	"frame":   regexp.MustCompile(`^frame (0|[1-9][0-9]{0,8}) (0|[1-9][0-9]{0,8})(( (0|[1-9][0-9]{0,8}))*)$`),
	"show":    regexp.MustCompile(`^show$`),
}

// deskKinds is the kinds by their words.
var deskKinds = map[string]int{"int": impl.KInt, "real": impl.KReal, "pair": impl.KPair, "bool": impl.KBool}

// schedOrders are those that change the schedule, gameOrders those that need a
// game.
var (
	schedOrders = []string{"comp", "res", "event", "text", "system", "when", "every", "gate", "order", "strict"}
	gameOrders  = []string{"spawn", "set", "frame", "show"}
)

// plainDesk does order by order what the document's table says, by the tests'
// own plans, and frames one by one.
type plainDesk struct {
	t     *testing.T
	s     impl.Sched
	g     *impl.Game
	told  strings.Builder
	line  int
	lines []string
	at    int
	cuts  map[int]string // behind how many lines a text may be cut, and what is told then
}

func plainly(t *testing.T, text string) *plainDesk {
	d := &plainDesk{t: t, cuts: map[int]string{0: ""}, lines: strings.Split(text, "\n")}
	if len(text) > impl.MaxDesk || len(d.lines) > impl.MaxLines {
		d.told.WriteString("error 8\n")
		return d
	}
	for d.at < len(d.lines) {
		words := wordsIn(d.lines[d.at])
		d.at++
		d.line = d.at
		if len(words) > 0 && words[0][0] != '#' {
			d.take(words)
		}
		d.cuts[d.at] = d.told.String()
	}
	return d
}

// wordsIn goes byte by byte.
func wordsIn(line string) []string {
	var words []string
	word := ""
	for i := range len(line) + 1 {
		if i < len(line) && line[i] != 32 {
			word += line[i : i+1]
		} else if word != "" {
			words, word = append(words, word), ""
		}
	}
	return words
}

func (d *plainDesk) tell(words ...any) {
	line := fmt.Sprintln(words...)
	fmt.Fprintf(&d.told, "%d: %s", d.line, line)
}

func (d *plainDesk) take(words []string) {
	row, ok := deskRows[words[0]]
	if !ok || !row.MatchString(strings.Join(words, " ")) {
		d.tell("error 1")
		return
	}
	if slices.Contains(gameOrders, words[0]) && d.g == nil {
		d.tell("error 7")
		return
	}
	told := d.told.Len()
	if slices.Contains(schedOrders, words[0]) {
		if err := d.change(words); err > 0 {
			d.tell("error", err)
		} else {
			d.g = nil
			d.tell("ok")
		}
	} else {
		d.ask(words)
	}
	if d.told.Len() == told {
		d.tell("none")
	}
}

// change answers the number of an error, or 0.
func (d *plainDesk) change(words []string) int {
	r := &d.s.Reg
	switch words[0] {
	case "comp":
		r.Comps = append(r.Comps, impl.Decl{Name: words[1], Kind: deskKinds[words[2]]})
	case "res":
		r.Ress = append(r.Ress, impl.Decl{Name: words[1], Kind: deskKinds[words[2]]})
	case "event":
		r.Evts = append(r.Evts, impl.Decl{Name: words[1], Kind: deskKinds[words[2]]})
	case "text":
		return d.changeText(asNumber(words[1]))
	case "system":
		d.s.Systems = append(d.s.Systems, impl.Sys{Name: words[1], Sets: words[2:]})
	case "order":
		d.s.Rules = append(d.s.Rules, impl.Rule{Before: words[1], After: words[2]})
	case "strict":
		d.s.Strict = true
	default:
		return d.changeLast(words)
	}
	return 0
}

func asNumber(word string) int {
	n, err := strconv.Atoi(word)
	if err != nil {
		panic(word)
	}
	return n
}

func (d *plainDesk) changeText(n int) int {
	text := ""
	for range n {
		if d.at == len(d.lines) {
			return 2
		}
		text += d.lines[d.at] + "\n"
		d.at++
	}
	d.s.Text = text
	return 0
}

func (d *plainDesk) changeLast(words []string) int {
	if len(d.s.Systems) == 0 {
		return 3
	}
	last := &d.s.Systems[len(d.s.Systems)-1]
	switch words[0] {
	case "when":
		last.When = words[1]
	case "every":
		last.Every = asNumber(words[1])
	case "gate":
		last.Gate, last.Phase = asNumber(words[1]), asNumber(words[2])
	}
	return 0
}

func (d *plainDesk) ask(words []string) {
	switch words[0] {
	case "plan":
		d.askPlan()
	case "clashes":
		for _, p := range plainUnordered(d.s) {
			d.tell(d.s.Systems[p.A].Name, d.s.Systems[p.B].Name, p.Clash.Sort, p.Clash.At)
		}
	case "start":
		if d.planned() {
			d.g = new(d.freshGame())
			d.tell("ok")
		}
	case "spawn":
		d.askSpawn(words[1:])
	case "set":
		d.askSet(words[1], words[2])
	case "frame":
		var numbers []int
		for _, word := range words[1:] {
			numbers = append(numbers, asNumber(word))
		}
		d.askFrame(numbers[0], numbers[1], numbers[2:])
	case "show":
		d.askShow()
	}
}

// planned tells why there is no plan.
func (d *plainDesk) planned() bool {
	code, at := plainRefusal(d.s)
	if code != impl.SchDone {
		d.tell("error 4", code, at)
	}
	return code == impl.SchDone
}

func (d *plainDesk) askPlan() {
	if !d.planned() {
		return
	}
	p := plainPlan(d.s)
	for stage := range impl.MaxSys {
		line := []any{"stage", stage}
		for _, system := range p.Order {
			if p.Stage[system] == stage {
				line = append(line, d.s.Systems[system].Name)
			}
		}
		if len(line) > 2 {
			d.tell(line...)
		}
	}
}

func (d *plainDesk) freshGame() impl.Game {
	g := impl.Game{Clocks: impl.Clocks{Acc: make([]int, len(d.s.Systems))}, Streams: make([]impl.Stream, len(d.s.Reg.Evts))}
	for _, res := range d.s.Reg.Ress {
		g.World.Res = append(g.World.Res, impl.Val{Kind: res.Kind})
	}
	for range d.s.Systems {
		g.Cursors = append(g.Cursors, make([]int, len(d.s.Reg.Evts)))
	}
	return g
}

func (d *plainDesk) askSpawn(names []string) {
	var cells []impl.Cell
	for _, name := range names {
		comp := slices.IndexFunc(d.s.Reg.Comps, func(c impl.Decl) bool { return c.Name == name })
		if comp < 0 {
			d.tell("error 6")
			return
		}
		cells = append(cells, impl.Cell{Comp: comp, Val: impl.Val{Kind: d.s.Reg.Comps[comp].Kind}})
	}
	w, e, code := impl.Spawn(d.s.Reg, d.g.World, cells)
	if code != impl.WDone {
		d.tell("error 5", code)
		return
	}
	d.g.World = w
	d.tell("thing", e.At, e.Gen)
}

var deskNumber = regexp.MustCompile(`^(0|[1-9][0-9]{0,8})$`)

func (d *plainDesk) askSet(name, value string) {
	for i, res := range d.s.Reg.Ress {
		var v impl.Val
		switch {
		case res.Name != name:
			continue
		case res.Kind == impl.KInt && deskNumber.MatchString(value):
			v = whole(asNumber(value))
		case res.Kind == impl.KBool && value == "yes":
			v = impl.Val{Kind: impl.KBool, I: 1}
		case res.Kind == impl.KBool && value == "no":
			v = impl.Val{Kind: impl.KBool}
		default:
			continue
		}
		d.g.World.Res[i] = v
		d.tell("ok")
		return
	}
	d.tell("error 6")
}

// askFrame takes the frame of one by one; whoever did it must not matter.
func (d *plainDesk) askFrame(tick, workers int, picks []int) {
	if tick > impl.MaxTick {
		d.tell("error 4", impl.SchMany, 1)
		return
	}
	if workers == 0 || workers > impl.MaxWorkers || len(picks) > impl.MaxPicks {
		d.tell("error 4", impl.SchMany, 2)
		return
	}
	p := playOf(d.t, d.s, *d.g, tick, impl.MaxSteps)
	for stage, moves := range p.moves(d.t, workers, picks) {
		line := []any{"stage", stage}
		for _, m := range moves {
			sign := map[int]string{impl.MoveBegin: "+", impl.MoveEnd: "-"}[m.Kind]
			line = append(line, sign+d.s.Systems[m.Task].Name)
		}
		d.tell(line...)
	}
	for _, w := range p.one.Troubles {
		d.tell("trouble", d.s.Systems[w.System].Name, w.Fault, w.Steps)
	}
	d.tell("things", len(impl.EntList(p.one.Game.World.Ents)))
	d.g = &p.one.Game
}

func (d *plainDesk) askShow() {
	r := d.s.Reg
	for _, table := range d.g.World.Tables {
		line := []any{"table"}
		for _, comp := range table.Cols {
			line = append(line, r.Comps[comp].Name)
		}
		d.tell(line...)
		for row, e := range table.Rows {
			line := []any{fmt.Sprintf("%d.%d", e.At, e.Gen)}
			for col, comp := range table.Cols {
				line = append(line, r.Comps[comp].Name+"="+impl.ValText(table.Cells[col][row]))
			}
			d.tell(line...)
		}
	}
	for i, v := range d.g.World.Res {
		d.tell(r.Ress[i].Name + "=" + impl.ValText(v))
	}
	for i, s := range d.g.Streams {
		d.tell(r.Evts[i].Name, s.First, len(s.Old), len(s.New))
	}
}

// cutText is the first lines of a text, with the byte 10 of the last of them or
// without it.
func cutText(text string, lines int, whole bool) string {
	if lines == 0 {
		return ""
	}
	cut := strings.Join(strings.Split(text, "\n")[:lines], "\n")
	if whole {
		cut += "\n"
	}
	return cut
}

// deskIs asks for what is told of a text, also by the plain answer, and of the
// text cut behind each line that is none of a text's.
func deskIs(t *testing.T, text, want string) {
	t.Helper()
	if got := impl.Desk(text); got != want {
		t.Errorf("Desk, %s\n%s", firstDifference(got, want), numberedLines(text))
	}
	deskHolds(t, text)
}

// deskHolds holds a text against the plain answer and against the last paragraph
// of the chapter. It tells what the desk tells.
func deskHolds(t *testing.T, text string) string {
	t.Helper()
	return deskHoldsAt(t, text, func(int) bool { return true })
}

// deskHoldsAt tries the cuts that are asked for, of those that may be.
func deskHoldsAt(t *testing.T, text string, asked func(lines int) bool) string {
	t.Helper()
	got := impl.Desk(text)
	d := plainly(t, text)
	if got != d.told.String() {
		t.Fatalf("Desk, not as the plain one: %s\n%s", firstDifference(got, d.told.String()), numberedLines(text))
	}
	for n, told := range d.cuts {
		if !strings.HasPrefix(got, told) {
			t.Fatalf("cut behind %d, told is no beginning: %q\n%s", n, told, numberedLines(text))
		}
		for _, ended := range []bool{false, true} {
			if ended && n >= len(d.lines) || !asked(n) {
				continue
			}
			if cut := impl.Desk(cutText(text, n, ended)); cut != told {
				t.Fatalf("cut behind %d (%v), %s\n%s", n, ended, firstDifference(cut, told), numberedLines(text))
			}
		}
	}
	return got
}

func firstDifference(got, want string) string {
	have, wants := strings.Split(got, "\n"), strings.Split(want, "\n")
	for i, line := range have {
		if i >= len(wants) || wants[i] != line {
			return fmt.Sprintf("told line %d is %.200q, not %.200q", i+1, line, strings.Join(wants[min(i, len(wants)):min(i+1, len(wants))], ""))
		}
	}
	if len(have) < len(wants) {
		return fmt.Sprintf("told is too little, there should be %.200q", wants[len(have)])
	}
	return "no difference"
}

func numberedLines(text string) string {
	var b strings.Builder
	for i, line := range strings.Split(text, "\n") {
		fmt.Fprintf(&b, "%d: %s\n", i+1, line)
	}
	return fmt.Sprintf("%.3000s", b.String())
}

// scriptOf reads a script such as
//
//	comp Hp int | ok
//	start       | ok
//	# a remark
//	frame 1 1   | stage 0; things 0
//
// as a text and what is told of it. Lines without a bar tell nothing.
func scriptOf(script string) (text, want string) {
	var lines []string
	for i, row := range strings.Split(strings.TrimPrefix(script, "\n"), "\n") {
		line, told, tells := strings.Cut(row, "|")
		if !tells {
			lines = append(lines, row)
			continue
		}
		lines = append(lines, strings.TrimRight(line, " "))
		for _, one := range strings.Split(told, ";") {
			want += fmt.Sprintf("%d: %s\n", i+1, strings.TrimSpace(one))
		}
	}
	return strings.Join(lines, "\n"), want
}

func script(t *testing.T, script string) {
	t.Helper()
	text, want := scriptOf(script)
	deskIs(t, text, want)
}
