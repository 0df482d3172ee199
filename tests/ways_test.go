package tests

import (
	"go/ast"
	"go/parser"
	"go/token"
	"testing"
)

// namesIn counts the names that a layer's file uses.
func namesIn(t *testing.T, layer string) map[string]int {
	t.Helper()
	f, err := parser.ParseFile(token.NewFileSet(), "../impl/"+layer, nil, parser.SkipObjectResolution)
	if err != nil {
		t.Fatal(err)
	}
	names := map[string]int{}
	ast.Inspect(f, func(n ast.Node) bool {
		if id, ok := n.(*ast.Ident); ok {
			names[id.Name]++
		}
		return true
	})
	return names
}

func TestWaysOfValues(t *testing.T) {
	names := namesIn(t, "l01_value.go")
	for _, want := range []string{"iota", "float64", "complex128", "complex", "real", "imag"} {
		if names[want] == 0 {
			t.Error("values are built without", want)
		}
	}
}
