package tests

import (
	"slices"
	"strconv"
	"strings"
	"testing"

	"loop.example/g00070/impl"
)

// insNames is how the tests write instructions, by their numbers.
var insNames = []string{
	"?", "Push", "Local", "Store", "Comp", "SetComp", "Res", "SetRes", "Op", "Turn", "Pair", "Pick", "Call", "Back", "Forget",
	"Jump", "Unless", "Loop", "Each", "Next", "Hear", "More", "Emit", "Spawn", "Kill", "Put", "Drop", "Tick", "End",
}

// codeOf reads code as "Tick, Push 7, SetRes 0, End": a name and A and B, or
// the value that is pushed; what is not written is 0.
func codeOf(text string) []impl.Ins {
	var list []impl.Ins
	for _, part := range strings.Split(text, ",") {
		words := strings.Fields(part)
		one := impl.Ins{Op: slices.Index(insNames, words[0])}
		if one.Op == impl.IPush {
			one.V = pushedVal(words[1])
			words = nil
		}
		if len(words) > 1 {
			one.A = numberIn(words[1])
		}
		if len(words) > 2 {
			one.B = numberIn(words[2])
		}
		list = append(list, one)
	}
	return list
}

func numberIn(word string) int {
	n, err := strconv.Atoi(word)
	if err != nil {
		panic(err)
	}
	return n
}

// pushedVal goes by the words yes and no, and by the point of a real number.
func pushedVal(word string) impl.Val {
	switch {
	case word == "yes" || word == "no":
		return yesNo(word == "yes")
	case strings.Contains(word, "."):
		x, err := strconv.ParseFloat(word, 64)
		if err != nil {
			panic(err)
		}
		return float(x)
	}
	return whole(numberIn(word))
}

func insText(one impl.Ins) string {
	name := "?" + strconv.Itoa(one.Op)
	if one.Op > 0 && one.Op < len(insNames) {
		name = insNames[one.Op]
	}
	text := name + " " + strconv.Itoa(one.A) + " " + strconv.Itoa(one.B)
	if one.V != (impl.Val{}) {
		text += " kind " + strconv.Itoa(one.V.Kind) + " " + strconv.Itoa(one.V.I) + " " + strconv.FormatFloat(one.V.X, 'g', -1, 64) + " " + strconv.FormatFloat(one.V.Y, 'g', -1, 64)
	}
	return text
}

func progText(p impl.Program) string {
	var b strings.Builder
	for i, one := range p.Code {
		b.WriteString("\n" + strconv.Itoa(i) + ": " + insText(one))
	}
	b.WriteString("\nStarts")
	for i, start := range p.Starts {
		b.WriteString(" " + strconv.Itoa(start))
		if i < len(p.Slots) {
			b.WriteString(" with " + strconv.Itoa(p.Slots[i]))
		}
	}
	for i, list := range p.Lists {
		b.WriteString("\nlist " + strconv.Itoa(i) + ":")
		for _, n := range list {
			b.WriteString(" " + strconv.Itoa(n))
		}
	}
	return b.String()
}

func sameIns(a, b impl.Ins) bool { return a.Op == b.Op && a.A == b.A && a.B == b.B && same(a.V, b.V) }

func sameProgram(a, b impl.Program) bool {
	return slices.EqualFunc(a.Code, b.Code, sameIns) && slices.Equal(a.Starts, b.Starts) && slices.Equal(a.Slots, b.Slots) && slices.EqualFunc(a.Lists, b.Lists, slices.Equal)
}

func cloneProgram(p impl.Program) impl.Program {
	q := impl.Program{Code: slices.Clone(p.Code), Starts: slices.Clone(p.Starts), Slots: slices.Clone(p.Slots)}
	for _, list := range p.Lists {
		q.Lists = append(q.Lists, slices.Clone(list))
	}
	return q
}

// codeCase is a text, and what its system s comes to.
type codeCase struct {
	text   string
	code   string
	starts []int
	slots  []int
	lists  [][]int
}

func allCompile(t *testing.T, list []codeCase) {
	t.Helper()
	for _, c := range list {
		x := checked(t, c.text)
		compiles(t, checkReg(), x, "s", impl.Program{Code: codeOf(c.code), Starts: c.starts, Slots: c.slots, Lists: c.lists})
		laidOut(t, checkReg(), x)
	}
}

// statementCase is a system of these statements, and of no functions.
func statementCase(statements, code string, slots int, lists ...[]int) codeCase {
	return codeCase{inSystem(statements), code, []int{0}, []int{slots}, lists}
}

// compiles asks for the program of a system.
func compiles(t *testing.T, r impl.Reg, x impl.Tree, name string, want impl.Program) {
	t.Helper()
	p, ok := impl.Compile(r, x, name)
	if !ok || !sameProgram(p, want) {
		text, _ := impl.Print(x)
		t.Errorf("Compile of %s: %v%s\nnot%s\n%s", name, ok, progText(p), progText(want), text)
	}
}

// notCompiled asks for no program.
func notCompiled(t *testing.T, what string, r impl.Reg, x impl.Tree, name string) {
	t.Helper()
	if p, ok := impl.Compile(r, x, name); ok || !sameProgram(p, impl.Program{}) {
		t.Errorf("%s: Compile of %.100q: %v%s", what, name, ok, progText(p))
	}
}

// laidOut holds the programs of all tops of a tree that may run against a
// layout, and against the promise.
func laidOut(t *testing.T, r impl.Reg, x impl.Tree) {
	t.Helper()
	for _, top := range x.Tops {
		name := x.Nodes[top].Text
		if x.Nodes[top].Kind != impl.NSystem {
			notCompiled(t, "a function", r, x, name)
			continue
		}
		compiles(t, r, x, name, newLayout(r, x).program(top))
		p, _ := impl.Compile(r, x, name)
		keepsToItself(t, r, p)
	}
}
