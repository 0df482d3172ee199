package tests

import (
	"slices"
	"strings"
	"testing"

	"loop.example/g00070/impl"
)

var allWords = []string{
	"system", "fn", "let", "if", "else", "loop", "each", "with",
	"without", "emit", "hear", "as", "spawn", "kill", "put", "drop",
	"do", "return", "pick", "of", "yes", "no", "and", "or",
	"not", "int", "real", "pair", "bool", "re", "im", "size",
}

var allSorts = []int{impl.SortComp, impl.SortRes, impl.SortEvt}

var noSorts = []int{0, -1, 4, 5, leastInt, mostInt}

func decl(name string, kind int) impl.Decl { return impl.Decl{Name: name, Kind: kind} }

// decls holds n declarations whose names begin with head.
func decls(head string, n int) []impl.Decl {
	list := make([]impl.Decl, n)
	for i := range list {
		list[i] = decl(head+string(rune('a'+i)), 1+i%4)
	}
	return list
}

// listOf points at the list of that sort.
func listOf(r *impl.Reg, sort int) *[]impl.Decl {
	return []*[]impl.Decl{&r.Comps, &r.Ress, &r.Evts}[sort-1]
}

func withList(r impl.Reg, sort int, list []impl.Decl) impl.Reg {
	*listOf(&r, sort) = list
	return r
}

// cloneReg makes a Reg that can be changed without touching the other one.
func cloneReg(r impl.Reg) impl.Reg {
	return impl.Reg{Comps: slices.Clone(r.Comps), Ress: slices.Clone(r.Ress), Evts: slices.Clone(r.Evts)}
}

func someReg() impl.Reg {
	return impl.Reg{
		Comps: []impl.Decl{decl("Pos", impl.KPair), decl("Hp", impl.KInt), decl("Mass", impl.KReal)},
		Ress:  []impl.Decl{decl("Score", impl.KInt), decl("Over", impl.KBool)},
		Evts:  []impl.Decl{decl("Hit", impl.KInt), decl("Push", impl.KPair), decl("Bell", impl.KBool)},
	}
}

// rightRegs holds Regs from empty ones to full ones, with names that are
// nearly words, or nearly alike.
func rightRegs() []impl.Reg {
	full := impl.Reg{Comps: decls("C", impl.MaxDecls), Ress: decls("R", impl.MaxDecls), Evts: decls("V", impl.MaxDecls)}
	list := []impl.Reg{
		{},
		{Comps: []impl.Decl{}, Ress: []impl.Decl{}, Evts: []impl.Decl{}},
		someReg(),
		full,
		{
			Comps: []impl.Decl{decl("hp", impl.KInt), decl("Hp", impl.KReal), decl("HP", impl.KBool)},
			Ress:  []impl.Decl{decl("hP", impl.KPair), decl("h", impl.KInt)},
			Evts:  []impl.Decl{decl("hpp", impl.KInt), decl("p", impl.KReal)},
		},
		{
			Comps: []impl.Decl{decl("Let", impl.KInt), decl("lets", impl.KInt), decl("le", impl.KInt)},
			Ress:  []impl.Decl{decl("withou", impl.KInt), decl("withouts", impl.KInt)},
			Evts:  []impl.Decl{decl("abcdefghijkl", impl.KInt), decl("ABCDEFGHIJKL", impl.KBool), decl("azAZ", impl.KPair)},
		},
	}
	for _, sort := range allSorts {
		list = append(list,
			withList(impl.Reg{}, sort, decls("N", 1)),
			withList(impl.Reg{}, sort, decls("N", impl.MaxDecls)),
			withList(full, sort, nil),
			withList(full, sort, []impl.Decl{}))
	}
	return list
}

// wrongNames holds texts that are no names, but for the words.
func wrongNames() []string {
	list := []string{
		"", "abcdefghijklm", "Abcdefghijklmnopqrstuvwxyz", strings.Repeat("a", 300),
		" ", "\x00", "\n", "_", "-", "'", "0", "9", "a b", "é", "ß", "名", "\xff", "\x80", "ab\u0301",
		"let ", " let", "Let1",
	}
	for c := range 256 {
		if b := byte(c); !strings.ContainsRune(letters, rune(b)) {
			s := string([]byte{b})
			list = append(list, s, s+"ab", "a"+s+"b", "ab"+s, s+"abcdefghijk", "abcdefghijk"+s)
		}
	}
	return list
}

const letters = "abcdefghijklmnopqrstuvwxyzABCDEFGHIJKLMNOPQRSTUVWXYZ"

// wrongRegs holds Regs each of which breaks one rule of RegOk; the first
// declaration of the columns is always Pos.
func wrongRegs() []impl.Reg {
	var list []impl.Reg
	wrong := slices.Concat(wrongNames()[:30], allWords, []string{"a@", "a[", "a`", "a{"})
	for _, sort := range allSorts {
		for _, name := range wrong {
			r := cloneReg(someReg())
			list = append(list, withList(r, sort, append(*listOf(&r, sort), decl(name, impl.KInt))))
		}
		for _, kind := range []int{0, -1, 5, 6, leastInt, mostInt} {
			r := cloneReg(someReg())
			(*listOf(&r, sort))[1].Kind = kind
			list = append(list, r)
		}
		more := decls("N", impl.MaxDecls+1)
		if sort == impl.SortComp {
			more[0].Name = "Pos"
		}
		list = append(list, withList(someReg(), sort, more))
	}
	return append(list, twinRegs()...)
}

// twinRegs holds Regs in which one name stands twice: in each list, and in
// each two of them.
func twinRegs() []impl.Reg {
	var list []impl.Reg
	for _, first := range allSorts {
		for _, other := range allSorts {
			for at, twin := range *listOf(new(someReg()), first) {
				for kind := impl.KInt; kind <= impl.KBool; kind++ {
					r := cloneReg(someReg())
					*listOf(&r, other) = append(*listOf(&r, other), decl(twin.Name, kind))
					list = append(list, r)
				}
				r := cloneReg(someReg())
				(*listOf(&r, other))[1].Name = (*listOf(&r, first))[at].Name
				if first != other || at != 1 {
					list = append(list, r)
				}
			}
		}
	}
	return list
}

func TestNameConstants(t *testing.T) {
	got := []int{impl.MaxDecls, impl.MaxName, impl.SortComp, impl.SortRes, impl.SortEvt}
	if !slices.Equal(got, []int{12, 12, 1, 2, 3}) {
		t.Error("constants", got)
	}
}

func TestIsWord(t *testing.T) {
	if len(allWords) != 32 {
		t.Fatal("words", len(allWords))
	}
	for _, word := range allWords {
		if !impl.IsWord(word) {
			t.Error("no word:", word)
		}
		near := []string{
			strings.ToUpper(word), strings.ToUpper(word[:1]) + word[1:], word[:len(word)-1] + strings.ToUpper(word[len(word)-1:]),
			word + "x", "x" + word, word + " ", " " + word, word + "\x00", word + word,
		}
		for _, s := range append(near, beginnings(word)...) {
			if impl.IsWord(s) != slices.Contains(allWords, s) {
				t.Errorf("IsWord(%q)", s)
			}
		}
	}
	for _, s := range append(wrongNames(), "a", "system1", "float", "string", "true", "false", "for", "func", "world", "Pos") {
		if impl.IsWord(s) {
			t.Errorf("IsWord(%q)", s)
		}
	}
}

// beginnings holds what a word begins with, ends with, and goes on with.
func beginnings(word string) []string {
	var list []string
	for i := range len(word) {
		list = append(list, word[:i], word[i:])
	}
	return append(list, word+"s", word+"out")
}

func TestNoWordIsAName(t *testing.T) {
	for _, word := range allWords {
		if impl.NameOk(word) {
			t.Error("a word is a name:", word)
		}
		for _, sort := range allSorts {
			r := withList(impl.Reg{}, sort, []impl.Decl{decl(word, impl.KInt)})
			if impl.RegOk(r) || impl.RegFind(r, sort, word) != -1 || impl.RegKind(r, sort, 0) != 0 {
				t.Error("a word is declared:", word, sort)
			}
		}
		for _, s := range beginnings(word) {
			want := s != "" && !slices.Contains(allWords, s)
			if impl.NameOk(s) != want {
				t.Errorf("NameOk(%q) is not %v", s, want)
			}
		}
		for _, s := range []string{strings.ToUpper(word), strings.ToUpper(word[:1]) + word[1:]} {
			if !impl.NameOk(s) {
				t.Error("no name, for a capital letter:", s)
			}
		}
	}
}

func TestNameOk(t *testing.T) {
	for n := range impl.MaxName + 1 {
		for _, c := range letters {
			s := strings.Repeat(string(c), n)
			if impl.NameOk(s) != (n > 0) {
				t.Errorf("NameOk(%q)", s)
			}
		}
	}
	for _, c := range letters {
		if s := strings.Repeat(string(c), impl.MaxName+1); impl.NameOk(s) {
			t.Errorf("NameOk(%q)", s)
		}
	}
	for _, s := range wrongNames() {
		if impl.NameOk(s) {
			t.Errorf("NameOk(%q)", s)
		}
	}
	for _, s := range []string{"a", "z", "A", "Z", "az", "AZ", "zA", "Hp", "Systems", "abcdefghijkl", "systemsystem"} {
		if !impl.NameOk(s) {
			t.Errorf("NameOk(%q) is not told", s)
		}
	}
}

func TestRegOk(t *testing.T) {
	for _, r := range rightRegs() {
		if !impl.RegOk(r) {
			t.Errorf("not right: %+v", r)
		}
	}
	for _, r := range wrongRegs() {
		if impl.RegOk(r) {
			t.Errorf("right: %+v", r)
		}
	}
}

func TestEachNameIsFoundWhereItStands(t *testing.T) {
	for _, r := range rightRegs() {
		for _, sort := range allSorts {
			for at, d := range *listOf(&r, sort) {
				for _, asked := range allSorts {
					want := -1
					if asked == sort {
						want = at
					}
					if got := impl.RegFind(r, asked, d.Name); got != want {
						t.Errorf("%s of list %d is found at %d of list %d, not %d", d.Name, sort, got, asked, want)
					}
				}
				if got := impl.RegKind(r, sort, at); got != d.Kind {
					t.Errorf("%s of list %d has the kind %d, not %d", d.Name, sort, got, d.Kind)
				}
			}
		}
	}
}

func TestNamesThatStandNowhere(t *testing.T) {
	names := slices.Concat([]string{"Nobody", "pos", "POS", "Po", "Posi", "os", "Pos ", "Pos\x00", "Hpp"}, wrongNames()[:30], allWords)
	for _, sort := range allSorts {
		for _, name := range names {
			if got := impl.RegFind(someReg(), sort, name); got != -1 {
				t.Errorf("%q is found in list %d at %d", name, sort, got)
			}
			if got := impl.RegFind(impl.Reg{}, sort, name); got != -1 {
				t.Errorf("%q is found in an empty list at %d", name, got)
			}
		}
	}
}

func TestNumbersOutsideOfTheList(t *testing.T) {
	for _, r := range rightRegs() {
		for _, sort := range allSorts {
			n := len(*listOf(&r, sort))
			for _, at := range []int{-1, -2, leastInt, n, n + 1, impl.MaxDecls, mostInt} {
				if got := impl.RegKind(r, sort, at); got != 0 {
					t.Errorf("number %d of %d in list %d has the kind %d", at, n, sort, got)
				}
			}
		}
	}
}

func TestSortsThatAreNone(t *testing.T) {
	for _, r := range rightRegs() {
		for _, sort := range noSorts {
			for _, real := range allSorts {
				for at, d := range *listOf(&r, real) {
					if impl.RegFind(r, sort, d.Name) != -1 || impl.RegKind(r, sort, at) != 0 {
						t.Errorf("sort %d has %s", sort, d.Name)
					}
				}
			}
			if impl.RegFind(r, sort, "") != -1 || impl.RegKind(r, sort, 0) != 0 {
				t.Errorf("sort %d has something", sort)
			}
		}
	}
}

func TestWrongRegsHoldNothing(t *testing.T) {
	for _, r := range wrongRegs() {
		for _, sort := range slices.Concat(allSorts, noSorts) {
			for _, list := range [][]impl.Decl{r.Comps, r.Ress, r.Evts} {
				for at, d := range list {
					if impl.RegFind(r, sort, d.Name) != -1 || impl.RegKind(r, sort, at) != 0 {
						t.Fatalf("%q is found in list %d of a wrong Reg: %+v", d.Name, sort, r)
					}
				}
			}
			if impl.RegFind(r, sort, "Pos") != -1 || impl.RegFind(r, sort, "Nobody") != -1 || impl.RegKind(r, sort, -1) != 0 {
				t.Fatalf("list %d of a wrong Reg: %+v", sort, r)
			}
		}
	}
}

// TestRandomRegs holds the answers against a plain count of the names.
func TestRandomRegs(t *testing.T) {
	d := dice(3)
	names := []string{"a", "b", "c", "A", "B", "aa", "ab", "let", "lets", "of", "Of", "a1", "", "abcdefghijkl", "abcdefghijklm"}
	right := 0
	for range 3000 {
		var r impl.Reg
		count := map[string]int{}
		ok := true
		for _, sort := range allSorts {
			for range d.roll(4) {
				one := decl(names[d.roll(7+d.roll(9))], 1+d.roll(4))
				if d.roll(60) == 0 {
					one.Kind = 5 * d.roll(2)
					ok = false
				}
				*listOf(&r, sort) = append(*listOf(&r, sort), one)
				count[one.Name]++
				ok = ok && impl.NameOk(one.Name) && count[one.Name] == 1
			}
		}
		if impl.RegOk(r) != ok {
			t.Fatalf("%+v is right: %v", r, !ok)
		}
		if ok {
			right++
		}
		checkFinds(t, r, names, ok)
	}
	if right < 300 {
		t.Error("too few right ones:", right)
	}
}

func checkFinds(t *testing.T, r impl.Reg, names []string, ok bool) {
	t.Helper()
	for _, sort := range allSorts {
		list := *listOf(&r, sort)
		for _, name := range names {
			want := slices.IndexFunc(list, func(d impl.Decl) bool { return d.Name == name })
			if !ok {
				want = -1
			}
			if got := impl.RegFind(r, sort, name); got != want {
				t.Fatalf("%+v: %q in list %d at %d, not %d", r, name, sort, got, want)
			}
		}
		for at := -1; at <= len(list); at++ {
			want := 0
			if ok && at >= 0 && at < len(list) {
				want = list[at].Kind
			}
			if got := impl.RegKind(r, sort, at); got != want {
				t.Fatalf("%+v: number %d of list %d has the kind %d, not %d", r, at, sort, got, want)
			}
		}
	}
}

func TestNamesLeaveTheArgumentAlone(t *testing.T) {
	mark := decl("spare", 77)
	for _, r := range slices.Concat(rightRegs(), wrongRegs()) {
		comps, ress, evts := guarded(r.Comps, mark), guarded(r.Ress, mark), guarded(r.Evts, mark)
		g := impl.Reg{Comps: comps.list(), Ress: ress.list(), Evts: evts.list()}
		if impl.RegOk(g) != impl.RegOk(r) {
			t.Errorf("spare room is looked at: %+v", r)
		}
		for _, sort := range slices.Concat(allSorts, noSorts) {
			for _, name := range []string{"Pos", "spare", "Hit", "", "let"} {
				if impl.RegFind(g, sort, name) != impl.RegFind(r, sort, name) || impl.RegFind(g, sort, "spare") != -1 {
					t.Errorf("spare room is looked at: %+v", r)
				}
			}
			for at := -1; at <= impl.MaxDecls+1; at++ {
				if impl.RegKind(g, sort, at) != impl.RegKind(r, sort, at) {
					t.Errorf("spare room is looked at: %+v", r)
				}
			}
		}
		if !comps.kept() || !ress.kept() || !evts.kept() {
			t.Errorf("written into: %+v", r)
		}
	}
}
