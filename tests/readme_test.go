package tests

import (
	"os"
	"strings"
	"testing"

	"loop.example/g00070/impl"
)

func readme(t *testing.T) string {
	t.Helper()
	text, err := os.ReadFile("../README.md")
	if err != nil {
		t.Fatal(err)
	}
	return string(text)
}

// indented is the rows of lines that begin with a tab.
func indented(text string) []string {
	var blocks []string
	block := ""
	for line := range strings.Lines(text + "\n") {
		if own, ok := strings.CutPrefix(line, "\t"); ok {
			block += own
		} else if block != "" {
			blocks, block = append(blocks, block), ""
		}
	}
	return blocks
}

func TestReadmeTellsTheDesk(t *testing.T) {
	_, desk, ok := strings.Cut(readme(t), "## At the desk")
	blocks := indented(desk)
	if !ok || len(blocks) < 2 {
		t.Fatal("no example")
	}
	deskIs(t, blocks[0], blocks[1])
	for word := range deskRows {
		if !strings.Contains(desk, "`"+word+"`") {
			t.Error("the order is not told:", word)
		}
	}
}

func TestReadmeTellsAll(t *testing.T) {
	text := readme(t)
	for _, name := range allNames() {
		if !strings.Contains(text, "impl."+name+"(") && !strings.Contains(text, "`impl."+name+"`") {
			t.Error("not told:", name)
		}
	}
	files, err := os.ReadDir("../impl")
	if err != nil {
		t.Fatal(err)
	}
	for _, file := range files {
		if !strings.Contains(text, "| impl/"+file.Name()+" | ") {
			t.Error("not told:", file.Name())
		}
	}
}

// The text of systems in the README may run as it stands.
func TestReadmeTellsTheLanguage(t *testing.T) {
	_, language, _ := strings.Cut(readme(t), "## The language of systems")
	text := indented(language)[0]
	r := impl.Reg{
		Comps: []impl.Decl{decl("Hp", impl.KInt), decl("Pos", impl.KPair), decl("Safe", impl.KBool)},
		Ress:  []impl.Decl{decl("Score", impl.KInt)},
		Evts:  []impl.Decl{decl("Hit", impl.KInt), decl("Gone", impl.KPair)},
	}
	x := parsedTree(t, text)
	if code, node := impl.Check(r, x); code != impl.ChkDone {
		t.Error(code, node)
	}
}
