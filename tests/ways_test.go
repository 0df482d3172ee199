package tests

import (
	"go/ast"
	"go/parser"
	"go/token"
	"strings"
	"testing"
)

func parsed(t *testing.T, layer string) *ast.File {
	t.Helper()
	f, err := parser.ParseFile(token.NewFileSet(), "../impl/"+layer, nil, parser.SkipObjectResolution)
	if err != nil {
		t.Fatal(err)
	}
	return f
}

// namesIn counts the names that a layer's file uses.
func namesIn(t *testing.T, layer string) map[string]int {
	t.Helper()
	names := map[string]int{}
	ast.Inspect(parsed(t, layer), func(n ast.Node) bool {
		if id, ok := n.(*ast.Ident); ok {
			names[id.Name]++
		}
		return true
	})
	return names
}

func TestWaysOfValues(t *testing.T) {
	names := namesIn(t, "l01_value.go")
	for _, want := range []string{"iota", "float64", "complex128", "complex", "real", "imag"} {
		if names[want] == 0 {
			t.Error("values are built without", want)
		}
	}
}

// labelledSteps counts the steps of that kind (break, continue, goto) that
// name a label.
func labelledSteps(t *testing.T, layer string, step token.Token) int {
	t.Helper()
	count := 0
	ast.Inspect(parsed(t, layer), func(n ast.Node) bool {
		if b, ok := n.(*ast.BranchStmt); ok && b.Tok == step && b.Label != nil {
			count++
		}
		return true
	})
	return count
}

func TestWaysOfThings(t *testing.T) {
	if labelledSteps(t, "l02_ents.go", token.CONTINUE) == 0 {
		t.Error("no labelled loop is gone on with")
	}
}

// embedsIn counts the fields without a name of their own.
func embedsIn(t *testing.T, layer string) int {
	t.Helper()
	count := 0
	ast.Inspect(parsed(t, layer), func(n ast.Node) bool {
		if s, ok := n.(*ast.StructType); ok {
			for _, field := range s.Fields.List {
				if len(field.Names) == 0 {
					count++
				}
			}
		}
		return true
	})
	return count
}

// mapsIn counts the map types.
func mapsIn(t *testing.T, layer string) int {
	t.Helper()
	count := 0
	ast.Inspect(parsed(t, layer), func(n ast.Node) bool {
		if _, ok := n.(*ast.MapType); ok {
			count++
		}
		return true
	})
	return count
}

func TestWaysOfNames(t *testing.T) {
	if mapsIn(t, "l03_names.go") == 0 {
		t.Error("words stand in no map")
	}
	if embedsIn(t, "l03_names.go") == 0 {
		t.Error("declarations embed nothing")
	}
}

func TestWaysOfTheWorld(t *testing.T) {
	generic := 0
	ast.Inspect(parsed(t, "l04_world.go"), func(n ast.Node) bool {
		if s, ok := n.(*ast.TypeSpec); ok && s.TypeParams != nil {
			generic++
		}
		return true
	})
	if generic == 0 {
		t.Error("tables are kept by no generic type")
	}
	if mapsIn(t, "l04_world.go") == 0 {
		t.Error("rows are found in no map")
	}
	if namesIn(t, "l04_world.go")["copy"] == 0 {
		t.Error("rows are not moved by copy")
	}
}

// methodValuesIn counts the methods of a layer that are taken as values, not
// called on the spot.
func methodValuesIn(t *testing.T, layer string) int {
	t.Helper()
	methods, called := map[string]bool{}, map[ast.Expr]bool{}
	file := parsed(t, layer)
	for _, d := range file.Decls {
		if f, ok := d.(*ast.FuncDecl); ok && f.Recv != nil {
			methods[f.Name.Name] = true
		}
	}
	count := 0
	ast.Inspect(file, func(n ast.Node) bool {
		switch n := n.(type) {
		case *ast.CallExpr:
			called[n.Fun] = true
		case *ast.SelectorExpr:
			if methods[n.Sel.Name] && !called[n] {
				count++
			}
		}
		return true
	})
	return count
}

func TestWaysOfCommandBuffers(t *testing.T) {
	interfaces, switches := 0, 0
	ast.Inspect(parsed(t, "l05_cmds.go"), func(n ast.Node) bool {
		switch n := n.(type) {
		case *ast.InterfaceType:
			interfaces += len(n.Methods.List)
		case *ast.TypeSwitchStmt:
			switches++
		}
		return true
	})
	if interfaces == 0 {
		t.Error("commands stand behind no interface")
	}
	if switches == 0 {
		t.Error("commands are told apart by no type switch")
	}
	if methodValuesIn(t, "l05_cmds.go") == 0 {
		t.Error("commands are done by no method value")
	}
}

// An iterator stands in a function that answers one of iter's types; a range
// over a call of such a function is a range over a function.
func TestWaysOfEvents(t *testing.T) {
	file := parsed(t, "l06_events.go")
	iterators := map[string]bool{}
	for _, d := range file.Decls {
		if f, ok := d.(*ast.FuncDecl); ok && f.Type.Results != nil {
			for _, result := range f.Type.Results.List {
				iterators[f.Name.Name] = iterators[f.Name.Name] || isIterator(result.Type)
			}
		}
	}
	ranges, early := 0, 0
	ast.Inspect(file, func(n ast.Node) bool {
		r, ok := n.(*ast.RangeStmt)
		if !ok {
			return true
		}
		call, ok := r.X.(*ast.CallExpr)
		if !ok {
			return true
		}
		if name, ok := call.Fun.(*ast.Ident); ok && iterators[name.Name] {
			ranges++
			early += leavesIn(r.Body)
		}
		return true
	})
	if ranges == 0 {
		t.Error("what is unread is told by no iterator")
	}
	if early == 0 {
		t.Error("no reader leaves the iterator early")
	}
}

func isIterator(of ast.Expr) bool {
	if index, ok := of.(*ast.IndexExpr); ok {
		of = index.X
	}
	if index, ok := of.(*ast.IndexListExpr); ok {
		of = index.X
	}
	sel, ok := of.(*ast.SelectorExpr)
	if !ok {
		return false
	}
	from, ok := sel.X.(*ast.Ident)
	return ok && from.Name == "iter"
}

// leavesIn counts the steps by which a loop's body leaves the loop.
func leavesIn(body *ast.BlockStmt) int {
	count := 0
	ast.Inspect(body, func(n ast.Node) bool {
		switch n := n.(type) {
		case *ast.ReturnStmt:
			count++
		case *ast.BranchStmt:
			if n.Tok == token.BREAK {
				count++
			}
		}
		return true
	})
	return count
}

// rangesOver counts the ranges over a parameter of that type.
func rangesOver(file *ast.File, kind string) int {
	count := 0
	for _, d := range file.Decls {
		f, ok := d.(*ast.FuncDecl)
		if !ok {
			continue
		}
		params := map[string]bool{}
		for _, p := range f.Type.Params.List {
			if of, ok := p.Type.(*ast.Ident); ok && of.Name == kind {
				for _, name := range p.Names {
					params[name.Name] = true
				}
			}
		}
		ast.Inspect(f, func(n ast.Node) bool {
			if r, ok := n.(*ast.RangeStmt); ok {
				if over, ok := r.X.(*ast.Ident); ok && params[over.Name] {
					count++
				}
			}
			return true
		})
	}
	return count
}

func TestWaysOfTokens(t *testing.T) {
	if labelledSteps(t, "l07_lex.go", token.GOTO) < 2 {
		t.Error("the scanner does not go from state to state by goto")
	}
	if namesIn(t, "l07_lex.go")["rune"] == 0 {
		t.Error("letters are no runes")
	}
	if rangesOver(parsed(t, "l07_lex.go"), "string") == 0 {
		t.Error("letters come by no range over a text")
	}
}

// callsOf counts the calls of that name.
func callsOf(in ast.Node, name string) int {
	count := 0
	ast.Inspect(in, func(n ast.Node) bool {
		if call, ok := n.(*ast.CallExpr); ok {
			if id, ok := call.Fun.(*ast.Ident); ok && id.Name == name {
				count++
			}
		}
		return true
	})
	return count
}

// recoversIn counts the deferred function literals that recover.
func recoversIn(file *ast.File) int {
	count := 0
	ast.Inspect(file, func(n ast.Node) bool {
		if d, ok := n.(*ast.DeferStmt); ok {
			if f, ok := d.Call.Fun.(*ast.FuncLit); ok && callsOf(f, "recover") > 0 {
				count++
			}
		}
		return true
	})
	return count
}

func TestWaysOfTrees(t *testing.T) {
	file := parsed(t, "l08_parse.go")
	if callsOf(file, "panic") == 0 {
		t.Error("the reader of tokens does not panic")
	}
	if recoversIn(file) == 0 {
		t.Error("no fault is recovered")
	}
	falls := 0
	ast.Inspect(file, func(n ast.Node) bool {
		if b, ok := n.(*ast.BranchStmt); ok && b.Tok == token.FALLTHROUGH {
			falls++
		}
		return true
	})
	if falls < 2 {
		t.Error("levels do not fall through a switch")
	}
}

// errorTypes is the names of the types that have a method Error.
func errorTypes(file *ast.File) map[string]bool {
	types := map[string]bool{}
	for _, d := range file.Decls {
		f, ok := d.(*ast.FuncDecl)
		if !ok || f.Recv == nil || f.Name.Name != "Error" {
			continue
		}
		of := f.Recv.List[0].Type
		if star, ok := of.(*ast.StarExpr); ok {
			of = star.X
		}
		types[of.(*ast.Ident).Name] = true
	}
	return types
}

func TestWaysOfChecking(t *testing.T) {
	file := parsed(t, "l09_check.go")
	types := errorTypes(file)
	if len(types) == 0 {
		t.Error("faults are no errors of a type of their own")
	}
	asked, targets, literals := 0, 0, 0
	ast.Inspect(file, func(n ast.Node) bool {
		switch n := n.(type) {
		case *ast.CallExpr:
			if s, ok := n.Fun.(*ast.SelectorExpr); ok && s.Sel.Name == "As" {
				if from, ok := s.X.(*ast.Ident); ok && from.Name == "errors" {
					asked++
				}
			}
		case *ast.ValueSpec:
			if of, ok := n.Type.(*ast.Ident); ok && types[of.Name] {
				targets++
			}
		case *ast.FuncLit:
			literals++
		}
		return true
	})
	if asked == 0 || targets == 0 {
		t.Error("faults are not found by errors.As")
	}
	if literals == 0 {
		t.Error("scopes are no closures")
	}
}

// boolArrays is the names of the types that are arrays of booleans, or of such
// arrays.
func boolArrays(file *ast.File) map[string]bool {
	types := map[string]bool{}
	for range 2 { // an array of arrays may be declared ahead of these
		ast.Inspect(file, func(n ast.Node) bool {
			s, ok := n.(*ast.TypeSpec)
			if !ok {
				return true
			}
			if a, ok := s.Type.(*ast.ArrayType); ok && a.Len != nil {
				if of, ok := a.Elt.(*ast.Ident); ok && (of.Name == "bool" || types[of.Name]) {
					types[s.Name.Name] = true
				}
			}
			return true
		})
	}
	return types
}

// answers tells for each function of one result the name of its type.
func answers(file *ast.File) map[string]string {
	all := map[string]string{}
	for _, d := range file.Decls {
		f, ok := d.(*ast.FuncDecl)
		if !ok || f.Type.Results == nil || len(f.Type.Results.List) != 1 {
			continue
		}
		if of, ok := f.Type.Results.List[0].Type.(*ast.Ident); ok {
			all[f.Name.Name] = of.Name
		}
	}
	return all
}

func TestWaysOfEffects(t *testing.T) {
	file := parsed(t, "l10_effects.go")
	types, results := boolArrays(file), answers(file)
	if len(types) == 0 {
		t.Error("sets are no arrays of booleans")
	}
	compared, joins := 0, 0
	ast.Inspect(file, func(n ast.Node) bool {
		switch n := n.(type) {
		case *ast.BinaryExpr:
			call, ok := n.X.(*ast.CallExpr)
			if !ok || n.Op != token.EQL && n.Op != token.NEQ {
				return true
			}
			if f, ok := call.Fun.(*ast.Ident); ok && types[results[f.Name]] {
				compared++
			}
		case *ast.FuncType:
			for _, p := range n.Params.List {
				if many, ok := p.Type.(*ast.Ellipsis); ok {
					if of, ok := many.Elt.(*ast.Ident); ok && types[of.Name] {
						joins++
					}
				}
			}
		}
		return true
	})
	if compared == 0 {
		t.Error("sets are not compared as arrays")
	}
	if joins == 0 {
		t.Error("sets are not joined by a variadic function")
	}
}

// methodExpressions counts the methods of a type that stand, taken from the
// type itself, in a map literal.
func methodExpressions(in ast.Node) int {
	count := 0
	ast.Inspect(in, func(n ast.Node) bool {
		lit, ok := n.(*ast.CompositeLit)
		if !ok {
			return true
		}
		if _, ok := lit.Type.(*ast.MapType); !ok {
			return true
		}
		for _, e := range lit.Elts {
			if pairOf, ok := e.(*ast.KeyValueExpr); ok && isMethodExpression(pairOf.Value) {
				count++
			}
		}
		return true
	})
	return count
}

// isMethodExpression looks for the form (*T).name.
func isMethodExpression(e ast.Expr) bool {
	sel, ok := e.(*ast.SelectorExpr)
	if !ok {
		return false
	}
	of, ok := sel.X.(*ast.ParenExpr)
	if !ok {
		return false
	}
	_, ok = of.X.(*ast.StarExpr)
	return ok
}

func TestWaysOfCode(t *testing.T) {
	file := parsed(t, "l11_code.go")
	if methodExpressions(file) < 10 {
		t.Error("what a node comes to stands in no map of method expressions")
	}
	defers := 0
	ast.Inspect(file, func(n ast.Node) bool {
		if _, ok := n.(*ast.DeferStmt); ok {
			defers++
		}
		return true
	})
	if defers == 0 {
		t.Error("places are put right by no deferred call")
	}
}

// functionTables counts the functions that make a table of functions.
func functionTables(file *ast.File) int {
	count := 0
	ast.Inspect(file, func(n ast.Node) bool {
		lit, ok := n.(*ast.CompositeLit)
		if !ok {
			return true
		}
		if list, ok := lit.Type.(*ast.ArrayType); ok && len(lit.Elts) > 0 {
			if _, ok := list.Elt.(*ast.FuncType); ok {
				count++
			}
		}
		return true
	})
	return count
}

func TestWaysOfTheMachine(t *testing.T) {
	if functionTables(parsed(t, "l12_vm.go")) == 0 {
		t.Error("instructions are no functions in a table")
	}
	for _, d := range parsed(t, "l12_vm.go").Decls {
		if g, ok := d.(*ast.GenDecl); ok && g.Tok == token.VAR {
			t.Error("the table is made by no function")
		}
	}
	if labelledSteps(t, "l12_vm.go", token.BREAK) == 0 {
		t.Error("the machine's loop is left by no labelled break")
	}
}

// makers is the names of the functions of a layer that answer a function, of a
// type with a name of its own or without; those of methods have a dot ahead.
func makers(file *ast.File) map[string]bool {
	types := map[string]bool{}
	ast.Inspect(file, func(n ast.Node) bool {
		if s, ok := n.(*ast.TypeSpec); ok {
			_, types[s.Name.Name] = s.Type.(*ast.FuncType)
		}
		return true
	})
	names := map[string]bool{}
	for _, d := range file.Decls {
		f, ok := d.(*ast.FuncDecl)
		if !ok || f.Type.Results == nil {
			continue
		}
		name := f.Name.Name
		if f.Recv != nil {
			name = "." + name
		}
		for _, result := range f.Type.Results.List {
			of, named := result.Type.(*ast.Ident)
			_, plain := result.Type.(*ast.FuncType)
			names[name] = names[name] || plain || named && types[of.Name]
		}
	}
	return names
}

func TestWaysOfTheMeaning(t *testing.T) {
	file := parsed(t, "l13_mean.go")
	made := makers(file)
	literals := 0
	ast.Inspect(file, func(n ast.Node) bool {
		lit, ok := n.(*ast.FuncLit)
		if !ok {
			return true
		}
		literals++
		ast.Inspect(lit.Body, func(n ast.Node) bool {
			switch n := n.(type) {
			case *ast.FuncLit:
				t.Error("a closure is made each time that another one is called")
			case *ast.CallExpr:
				name := ""
				switch f := n.Fun.(type) {
				case *ast.Ident:
					name = f.Name
				case *ast.SelectorExpr:
					name = "." + f.Sel.Name
				}
				if made[name] {
					t.Error("what", name, "makes is not made once")
				}
			}
			return true
		})
		return true
	})
	if literals < 10 || !made[".statement"] || !made[".expression"] {
		t.Error("statements are no closures")
	}
}

func TestWaysOfOrders(t *testing.T) {
	file := parsed(t, "l14_order.go")
	assigned, shifted := 0, 0
	ast.Inspect(file, func(n ast.Node) bool {
		switch n := n.(type) {
		case *ast.AssignStmt:
			switch n.Tok {
			case token.OR_ASSIGN, token.AND_ASSIGN, token.AND_NOT_ASSIGN, token.XOR_ASSIGN:
				assigned++
			}
		case *ast.BinaryExpr:
			if n.Op == token.SHL || n.Op == token.SHR {
				shifted++
			}
		}
		return true
	})
	if assigned == 0 || shifted == 0 {
		t.Error("who is ahead of whom does not stand in bits")
	}
	if labelledSteps(t, "l14_order.go", token.BREAK) == 0 {
		t.Error("the search for a circle is left by no labelled break")
	}
	if rangesOver(file, "int") == 0 {
		t.Error("numbers are not ranged over")
	}
}

// mapTypes is the names that a layer gives to types of maps.
func mapTypes(file *ast.File) map[string]bool {
	names := map[string]bool{}
	ast.Inspect(file, func(n ast.Node) bool {
		if spec, ok := n.(*ast.TypeSpec); ok {
			if _, ok := spec.Type.(*ast.MapType); ok {
				names[spec.Name.Name] = true
			}
		}
		return true
	})
	return names
}

// sortsItsKeys tells whether a function that has a map of such a type as its
// receiver ranges over that, and sorts behind it.
func sortsItsKeys(f *ast.FuncDecl, types map[string]bool) bool {
	if f.Recv == nil || len(f.Recv.List[0].Names) == 0 {
		return false
	}
	of, ok := f.Recv.List[0].Type.(*ast.Ident)
	if !ok || !types[of.Name] {
		return false
	}
	ranged, sorted := token.NoPos, token.NoPos
	ast.Inspect(f, func(n ast.Node) bool {
		switch n := n.(type) {
		case *ast.RangeStmt:
			if over, ok := n.X.(*ast.Ident); ok && over.Name == f.Recv.List[0].Names[0].Name {
				ranged = n.Pos()
			}
		case *ast.SelectorExpr:
			if strings.HasPrefix(n.Sel.Name, "Sort") {
				sorted = n.Pos()
			}
		}
		return true
	})
	return ranged != token.NoPos && sorted > ranged
}

func TestWaysOfSchedules(t *testing.T) {
	file := parsed(t, "l15_sched.go")
	types := mapTypes(file)
	told := 0
	for _, d := range file.Decls {
		if f, ok := d.(*ast.FuncDecl); ok && sortsItsKeys(f, types) {
			told++
		}
	}
	if told == 0 {
		t.Error("sets are no maps whose keys are told sorted")
	}
}

// genericOverLists is the names of the functions that have lists of a type that
// is handed in.
func genericOverLists(file *ast.File) map[string]bool {
	names := map[string]bool{}
	for _, d := range file.Decls {
		f, ok := d.(*ast.FuncDecl)
		if !ok || f.Type.TypeParams == nil {
			continue
		}
		types := map[string]bool{}
		for _, p := range f.Type.TypeParams.List {
			for _, name := range p.Names {
				types[name.Name] = true
			}
		}
		for _, p := range f.Type.Params.List {
			if list, ok := p.Type.(*ast.ArrayType); ok && list.Len == nil {
				if of, ok := list.Elt.(*ast.Ident); ok && types[of.Name] {
					names[f.Name.Name] = true
				}
			}
		}
	}
	return names
}

func TestWaysOfClashes(t *testing.T) {
	file := parsed(t, "l16_clash.go")
	generic := genericOverLists(file)
	for _, d := range file.Decls {
		f, ok := d.(*ast.FuncDecl)
		if !ok || f.Name.Name != "Clashes" && f.Name.Name != "Strictly" {
			continue
		}
		calls := 0
		for name := range generic {
			calls += callsOf(f, name)
		}
		if calls == 0 {
			t.Error("what", f.Name.Name, "tells is found by no generic function over lists")
		}
	}
}

// functionLists counts the lists of three functions at least, and the loops that
// call what such a list has; types are those with a function's name.
func functionLists(file *ast.File) (lists int, calls int) {
	types := map[string]bool{}
	ast.Inspect(file, func(n ast.Node) bool {
		if s, ok := n.(*ast.TypeSpec); ok {
			_, types[s.Name.Name] = s.Type.(*ast.FuncType)
		}
		return true
	})
	ofFunctions := func(e ast.Expr) bool {
		list, ok := e.(*ast.ArrayType)
		if !ok {
			return false
		}
		of, named := list.Elt.(*ast.Ident)
		_, plain := list.Elt.(*ast.FuncType)
		return plain || named && types[of.Name]
	}
	handed := map[string]bool{}
	ast.Inspect(file, func(n ast.Node) bool {
		switch n := n.(type) {
		case *ast.CompositeLit:
			if ofFunctions(n.Type) && len(n.Elts) >= 3 {
				lists++
			}
		case *ast.Field:
			for _, name := range n.Names {
				handed[name.Name] = handed[name.Name] || ofFunctions(n.Type)
			}
		case *ast.RangeStmt:
			over, ok := n.X.(*ast.Ident)
			if one, named := n.Value.(*ast.Ident); ok && named && handed[over.Name] {
				calls += callsOf(n.Body, one.Name)
			}
		}
		return true
	})
	return lists, calls
}

func TestWaysOfPlans(t *testing.T) {
	file := parsed(t, "l17_plan.go")
	lists, calls := functionLists(file)
	if lists == 0 {
		t.Error("passes are no function values in a list")
	}
	if calls == 0 {
		t.Error("no loop calls the passes")
	}
	for _, d := range file.Decls {
		if g, ok := d.(*ast.GenDecl); ok && g.Tok == token.VAR {
			t.Error("the list of passes is made by no function")
		}
	}
}

// chanLists counts the lists of channels, which workers have their own of.
func chanLists(file *ast.File) int {
	count := 0
	ast.Inspect(file, func(n ast.Node) bool {
		if list, ok := n.(*ast.ArrayType); ok {
			if _, ok := list.Elt.(*ast.ChanType); ok {
				count++
			}
		}
		return true
	})
	return count
}

// selects counts the select statements, and those of their cases that send and
// that receive.
func selects(file *ast.File) (count, sends, receives int) {
	ast.Inspect(file, func(n ast.Node) bool {
		switch n := n.(type) {
		case *ast.SelectStmt:
			count++
		case *ast.CommClause:
			if _, ok := n.Comm.(*ast.SendStmt); ok {
				sends++
			} else if n.Comm != nil {
				receives++
			}
		}
		return true
	})
	return count, sends, receives
}

func TestWaysOfWorkers(t *testing.T) {
	file := parsed(t, "l18_pool.go")
	begun := 0
	ast.Inspect(file, func(n ast.Node) bool {
		if _, ok := n.(*ast.GoStmt); ok {
			begun++
		}
		return true
	})
	if begun == 0 {
		t.Error("no worker is a goroutine")
	}
	if chanLists(file) == 0 {
		t.Error("workers have no channels of their own")
	}
	if count, sends, receives := selects(file); count != 1 || sends == 0 || receives == 0 {
		t.Error("who is ready and who has ended are not in one select:", count, sends, receives)
	}
	names := namesIn(t, "l18_pool.go")
	for _, want := range []string{"WaitGroup", "Add", "Done", "Wait"} {
		if names[want] == 0 {
			t.Error("workers are joined without", want)
		}
	}
}

// methodOwners is, of each method that an interface of the file asks for, the
// types that have it.
func methodOwners(file *ast.File) map[string][]string {
	owners := map[string][]string{}
	ast.Inspect(file, func(n ast.Node) bool {
		if face, ok := n.(*ast.InterfaceType); ok {
			for _, method := range face.Methods.List {
				for _, name := range method.Names {
					owners[name.Name] = nil
				}
			}
		}
		return true
	})
	for _, d := range file.Decls {
		f, ok := d.(*ast.FuncDecl)
		if !ok || f.Recv == nil {
			continue
		}
		of, plain := f.Recv.List[0].Type.(*ast.Ident)
		if types, asked := owners[f.Name.Name]; asked && plain {
			owners[f.Name.Name] = append(types, of.Name)
		}
	}
	return owners
}

func TestWaysOfGates(t *testing.T) {
	owners := methodOwners(parsed(t, "l19_gates.go"))
	if len(owners) == 0 {
		t.Error("no interface stands ahead of the gates")
	}
	for name, types := range owners {
		if len(types) < 4 {
			t.Error("gates are no types of their own: only", types, "have", name)
		}
	}
	for _, d := range parsed(t, "l19_gates.go").Decls {
		if f, ok := d.(*ast.FuncDecl); ok && f.Name.Name == "Times" {
			called := false
			ast.Inspect(f, func(n ast.Node) bool {
				if sel, ok := n.(*ast.SelectorExpr); ok {
					_, asked := owners[sel.Sel.Name]
					called = called || asked
				}
				return true
			})
			if !called {
				t.Error("Times asks no gate")
			}
		}
	}
}

// reachedFrom is the functions and methods of a file that one of them calls, and
// that these call, and so on, by their names alone.
func reachedFrom(file *ast.File, name string) map[string]*ast.FuncDecl {
	all := map[string]*ast.FuncDecl{}
	for _, d := range file.Decls {
		if f, ok := d.(*ast.FuncDecl); ok {
			all[f.Name.Name] = f
		}
	}
	reached := map[string]*ast.FuncDecl{}
	for work := []string{name}; len(work) > 0; work = work[1:] {
		f, ok := all[work[0]]
		if _, seen := reached[work[0]]; seen || !ok {
			continue
		}
		reached[work[0]] = f
		ast.Inspect(f, func(n ast.Node) bool {
			if id, ok := n.(*ast.Ident); ok {
				work = append(work, id.Name)
			}
			return true
		})
	}
	return reached
}

func TestWaysOfFrames(t *testing.T) {
	file := parsed(t, "l20_frame.go")
	if recoversIn(file) == 0 {
		t.Error("no task that fails is contained")
	}
	for _, face := range []string{"Task", "FrameOne"} {
		contained, thrown := 0, 0
		for _, f := range reachedFrom(file, face) {
			contained += recoversIn(&ast.File{Name: file.Name, Decls: []ast.Decl{f}})
			thrown += callsOf(f, "panic")
		}
		if contained == 0 || thrown == 0 {
			t.Error(face, "reaches", thrown, "panics, and", contained, "that recover")
		}
	}
	pointers := 0
	ast.Inspect(file, func(n ast.Node) bool {
		if star, ok := n.(*ast.StarExpr); ok {
			if of, ok := star.X.(*ast.Ident); ok && of.Name == "Trouble" {
				pointers++
			}
		}
		return true
	})
	if pointers == 0 {
		t.Error("troubles are told by no pointer")
	}
}

func TestWaysOfSideBySide(t *testing.T) {
	file := parsed(t, "l21_side.go")
	begun, calls := 0, map[string]int{}
	for _, f := range reachedFrom(file, "FrameSide") {
		ast.Inspect(f, func(n ast.Node) bool {
			switch n := n.(type) {
			case *ast.GoStmt:
				begun++
			case *ast.CallExpr:
				if sel, ok := n.Fun.(*ast.SelectorExpr); ok {
					calls[sel.Sel.Name]++
				}
			}
			return true
		})
	}
	if begun == 0 {
		t.Error("no task runs in a goroutine")
	}
	if namesIn(t, "l21_side.go")["Mutex"] == 0 {
		t.Error("what tasks leave is put together without a mutex")
	}
	if calls["Lock"] < 2 || calls["Lock"] != calls["Unlock"] {
		t.Error("what tasks find and leave is not under a mutex:", calls["Lock"], calls["Unlock"])
	}
	if calls["Wait"] == 0 {
		t.Error("nobody waits for the end of a task")
	}
}

func TestWaysOfChanges(t *testing.T) {
	file := parsed(t, "l22_change.go")
	deleted, looked := 0, 0
	for _, f := range reachedFrom(file, "Change") {
		deleted += callsOf(f, "delete")
		ast.Inspect(f, func(n ast.Node) bool {
			if set, ok := n.(*ast.AssignStmt); ok && len(set.Lhs) == 2 && len(set.Rhs) == 1 {
				if _, asked := set.Rhs[0].(*ast.IndexExpr); asked {
					looked++
				}
			}
			return true
		})
	}
	if looked == 0 {
		t.Error("what goes over is looked up in no map")
	}
	if deleted == 0 {
		t.Error("what has gone over is deleted out of no map")
	}
}

// linkedTypes is the names of the struct types that have pointers to their own
// kind, and of those that they embed.
func linkedTypes(file *ast.File) (linked, leaves map[string]bool) {
	linked, leaves = map[string]bool{}, map[string]bool{}
	ast.Inspect(file, func(n ast.Node) bool {
		spec, ok := n.(*ast.TypeSpec)
		if !ok {
			return true
		}
		fields, ok := spec.Type.(*ast.StructType)
		if !ok {
			return true
		}
		ast.Inspect(fields, func(n ast.Node) bool {
			if star, ok := n.(*ast.StarExpr); ok {
				if of, ok := star.X.(*ast.Ident); ok && of.Name == spec.Name.Name {
					linked[of.Name] = true
				}
			}
			return true
		})
		for _, field := range fields.Fields.List {
			if of, ok := field.Type.(*ast.Ident); ok && linked[spec.Name.Name] && len(field.Names) == 0 {
				leaves[of.Name] = true
			}
		}
		return true
	})
	return linked, leaves
}

// comparesIn counts the comparisons with a literal of one of these types.
func comparesIn(f *ast.FuncDecl, types map[string]bool) int {
	count := 0
	ast.Inspect(f, func(n ast.Node) bool {
		b, ok := n.(*ast.BinaryExpr)
		if !ok || b.Op != token.EQL && b.Op != token.NEQ {
			return true
		}
		lit, ok := ast.Unparen(b.Y).(*ast.CompositeLit)
		if !ok {
			return true
		}
		if of, ok := lit.Type.(*ast.Ident); ok && types[of.Name] {
			count++
		}
		return true
	})
	return count
}

// callsItself tells whether a function or a method has a call of its own name.
func callsItself(f *ast.FuncDecl) bool {
	found := callsOf(f, f.Name.Name) > 0
	ast.Inspect(f, func(n ast.Node) bool {
		if call, ok := n.(*ast.CallExpr); ok {
			if sel, ok := call.Fun.(*ast.SelectorExpr); ok && sel.Sel.Name == f.Name.Name {
				found = true
			}
		}
		return true
	})
	return found
}

func TestWaysOfSmallerTrees(t *testing.T) {
	file := parsed(t, "l23_trees.go")
	linked, leaves := linkedTypes(file)
	if len(linked) == 0 || len(leaves) == 0 {
		t.Error("trees are not linked by pointers, with leaves of their own:", linked, leaves)
	}
	for _, face := range []string{"Fold", "Prune"} {
		again := 0
		for _, f := range reachedFrom(file, face) {
			again += countIf(callsItself(f))
		}
		if again < 2 {
			t.Error("what", face, "tells is not linked and rebuilt by recursion:", again)
		}
	}
	compared := 0
	for _, f := range reachedFrom(file, "Fold") {
		compared += comparesIn(f, leaves)
	}
	if compared == 0 {
		t.Error("leaves are not compared as structs")
	}
}

// structsOf is the struct types of a file, by their names.
func structsOf(file *ast.File) map[string]*ast.StructType {
	all := map[string]*ast.StructType{}
	ast.Inspect(file, func(n ast.Node) bool {
		if spec, ok := n.(*ast.TypeSpec); ok {
			if fields, ok := spec.Type.(*ast.StructType); ok {
				all[spec.Name.Name] = fields
			}
		}
		return true
	})
	return all
}

// functionFields is the names of a struct's fields that are functions.
func functionFields(s *ast.StructType) map[string]bool {
	names := map[string]bool{}
	for _, field := range s.Fields.List {
		if _, ok := field.Type.(*ast.FuncType); ok {
			for _, name := range field.Names {
				names[name.Name] = true
			}
		}
	}
	return names
}

// calledFields counts the calls of x.name of such names.
func calledFields(f *ast.FuncDecl, names map[string]bool) int {
	count := 0
	ast.Inspect(f, func(n ast.Node) bool {
		if call, ok := n.(*ast.CallExpr); ok {
			if sel, ok := call.Fun.(*ast.SelectorExpr); ok && names[sel.Sel.Name] {
				count++
			}
		}
		return true
	})
	return count
}

// ordersIn counts the rows of map literals whose values are structs of a type
// with functions in their fields.
func ordersIn(f *ast.FuncDecl, structs map[string]*ast.StructType) (rows int, fields map[string]bool) {
	ast.Inspect(f, func(n ast.Node) bool {
		lit, ok := n.(*ast.CompositeLit)
		if !ok {
			return true
		}
		if of, ok := lit.Type.(*ast.MapType); ok {
			if value, ok := of.Value.(*ast.Ident); ok && structs[value.Name] != nil {
				fields = functionFields(structs[value.Name])
				rows += len(lit.Elts) * countIf(len(fields) > 0)
			}
		}
		return true
	})
	return rows, fields
}

func TestWaysOfTheDesk(t *testing.T) {
	file := parsed(t, "l24_desk.go")
	structs, reached := structsOf(file), reachedFrom(file, "Desk")
	rows, called, told := 0, 0, 0
	for _, f := range reached {
		found, fields := ordersIn(f, structs)
		rows += found
		for _, other := range reached {
			called += calledFields(other, fields)
		}
	}
	if rows != 17 || called == 0 {
		t.Error("orders do not stand in a map of functions in struct fields:", rows, called)
	}
	// the writer is embedded where it is a part without a name that has a
	// strings.Builder of its own, and methods that write into it
	for _, whole := range structs {
		for _, field := range whole.Fields.List {
			part, ok := field.Type.(*ast.Ident)
			if !ok || len(field.Names) > 0 || structs[part.Name] == nil {
				continue
			}
			for _, f := range reached {
				if f.Recv != nil && receives(f) == part.Name {
					told += calledFields(f, map[string]bool{"WriteString": true})
				}
			}
		}
	}
	if told == 0 {
		t.Error("the desk's writer is not embedded")
	}
}

// receives is the name of the type that a method has, whether by a pointer or not.
func receives(f *ast.FuncDecl) string {
	of := f.Recv.List[0].Type
	if star, ok := of.(*ast.StarExpr); ok {
		of = star.X
	}
	if id, ok := of.(*ast.Ident); ok {
		return id.Name
	}
	return ""
}
