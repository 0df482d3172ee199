package tests

import (
	"go/ast"
	"go/parser"
	"go/token"
	"maps"
	"os"
	"reflect"
	"runtime"
	"slices"
	"strings"
	"testing"
)

func allNames() []string { return slices.Sorted(maps.Keys(allCalls)) }

// No function of the program is forgotten.
func TestAllAreCalled(t *testing.T) {
	files, err := os.ReadDir("../impl")
	if err != nil {
		t.Fatal(err)
	}
	found := map[string]bool{}
	for _, file := range files {
		if !strings.HasSuffix(file.Name(), ".go") {
			t.Error("what is", file.Name())
			continue
		}
		tree, err := parser.ParseFile(token.NewFileSet(), "../impl/"+file.Name(), nil, parser.SkipObjectResolution)
		if err != nil {
			t.Fatal(err)
		}
		for _, decl := range tree.Decls {
			f, ok := decl.(*ast.FuncDecl)
			if !ok || !f.Name.IsExported() {
				continue
			}
			if f.Recv == nil {
				found[f.Name.Name] = true
			} else if ast.IsExported(receives(f)) {
				t.Error("a method that is not called:", receives(f), f.Name.Name)
			}
		}
	}
	if got := slices.Sorted(maps.Keys(found)); !slices.Equal(got, allNames()) {
		t.Errorf("have %v\ncalled %v", got, allNames())
	}
}

// Each function at arguments by chance: right ones, those with one thing wrong,
// and odd ones.
func TestAllAtAnyArguments(t *testing.T) {
	w := newAuthor(281)
	before := runtime.NumGoroutine()
	told := map[string]map[string]bool{}
	for range 150 {
		r := anyRights(w)
		for _, name := range allNames() {
			if told[name] == nil {
				told[name] = map[string]bool{}
			}
			for range 4 {
				answer := calledSharing(t, &w.dice, name, r.anyArguments(&w.dice, name))
				told[name][answer.String()] = true
			}
		}
	}
	for name, answers := range told {
		least := 3
		if of := reflect.TypeOf(allCalls[name]); of.NumOut() == 1 && of.Out(0).Kind() == reflect.Bool {
			least = 2
		}
		if len(answers) < least {
			t.Error(name, "has only", len(answers), "answers")
		}
	}
	if !goroutinesUpTo(before) {
		t.Error(runtime.NumGoroutine()-before, "are left")
	}
}

// What the tests look for would be found: each of these functions has one fault.
func TestAllFaultsAreFound(t *testing.T) {
	count := 0
	var kept []int
	for _, c := range []struct {
		fault string
		f     any
	}{
		{"panics", func(list []int, text string) int { return list[len(list)] }},
		{"writes", func(list []int, text string) int { list[1] = 9; return 0 }},
		{"writes", func(list []int, text string) int { return len(append(list, 9)) }},
		{"the answer shares", func(list []int, text string) []int { return list }},
		{"the answer shares", func(list []int, text string) []int { return list[:0] }},
		{"the answer shares", func(list []int, text string) []int { return list[3:4:4] }},
		{"the answer shares", func(list []int, text string) string { return text[1:] }},
		{"the answer shares", func(list []int, text string) [][]int { n := []int{1, 2}; return [][]int{n[:1], n[1:], n[:2]} }},
		{"second answer", func(list []int, text string) int { count++; return count }},
		{"second answer", func(list []int, text string) int { return cap(list) }},
		{"second answer", func(list []int, text string) int { return list[:4][3] }},
		{"two answers share", func(list []int, text string) []int {
			if kept == nil {
				kept = []int{1, 2, 3}
			}
			return kept
		}},
		{"", func(list []int, text string) []int { return append([]int{}, list...) }},
		{"", func(list []int, text string) string { return strings.Clone(text) }},
		{"", func(list []int, text string) string { return "ok" }},
	} {
		d := dice(289)
		args := valuesOf(map[string][]any{"": {[]int{4, 5, 6}, "abc"}})[""]
		_, fault := faultOf(&d, c.f, args)
		if !strings.Contains(fault, c.fault) || c.fault == "" && fault != "" {
			t.Errorf("%q, not %q", fault, c.fault)
		}
	}
}

func TestAllFaultsOfSharingAreFound(t *testing.T) {
	for fault, f := range map[string]any{
		"another answer":        func(a, b []int) bool { return &a[1] == &b[0] },
		"are changed":           func(a, b []int) bool { b[0] = 7; return false },
		"the answer shares it,": func(a, b []int) []int { return b[:1] },
		"":                      func(a, b []int) []int { return append(append([]int{}, a...), b...) },
	} {
		list := []int{1, 2, 3}
		both := valuesOf(map[string][]any{"": {list[:2], list[1:]}})[""]
		want, _ := toldBy(f, both.copied())
		if got := faultSharing(f, both, want); !strings.Contains(got, fault) || fault == "" && got != "" {
			t.Errorf("%q, not %q", got, fault)
		}
	}
}
