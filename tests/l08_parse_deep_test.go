package tests

import (
	"slices"
	"strings"
	"testing"

	"loop.example/g00070/impl"
)

// step goes one step further in: from where a statement can stand, or an
// operand, to where one of both can stand. In ahead an @ stands ahead of the
// first token of the first one that it opens; one at its end is ahead of what
// stands behind it.
type step struct {
	toOperand bool
	ahead     string
	behind    string
	opens     int
}

func blockStep(ahead string) step { return step{false, ahead, "}", 1} }

func wholeStep(ahead, behind string) step { return step{true, ahead, behind, 1} }

func flatStep(ahead, behind string) step { return step{true, ahead, behind, 0} }

// blockSteps lead from a statement to a statement.
func blockSteps() []step {
	return []step{
		blockStep("if @ x {"), blockStep("if @ yes { kill ; } else {"), blockStep("kill ; loop @ 3 + x {"), blockStep("each with A @ {"),
		blockStep("each with A , B without C , D @ {"), blockStep("hear E as h @ {"), blockStep("spawn ( A = @ 1 ) ; hear E as h {"), blockStep("kill ; do f ( ) ; spawn ( ) ; hear E as h @ {"),
	}
}

// valueSteps lead from a statement to an operand.
func valueSteps() []step {
	return []step{
		wholeStep("let x = @", ";"), wholeStep("x = @", ";"), wholeStep(". x = @", ";"), wholeStep("$ x = @", ";"), wholeStep("put x = @", ";"),
		wholeStep("if @", "{ }"), wholeStep("if @", "{ kill ; } else { }"), wholeStep("loop @", "{ }"), wholeStep("emit E @", ";"), wholeStep("return @", ";"),
		wholeStep("do f ( @", ") ;"), wholeStep("do f ( @ 1 ,", ", 2 ) ;"), wholeStep("spawn ( A = @", ") ;"), wholeStep("spawn ( A = @ 1 , B =", ", C = 2 ) ;"),
		wholeStep("kill ; x = @", "; kill ;"),
	}
}

// operandSteps lead from an operand to an operand, one level further in.
func operandSteps() []step {
	return []step{
		wholeStep("( @", ")"), wholeStep("f ( @", ")"), wholeStep("f ( @ 1 ,", ", 2 )"), wholeStep("re ( @", ")"), wholeStep("im ( @", ")"), wholeStep("real ( @", ")"), wholeStep("size ( @", ")"),
		wholeStep("pair ( @", ", 1 )"), wholeStep("pair ( @ 1 ,", ")"), wholeStep("pick ( @", "of A , B )"), wholeStep("@ -", ""), wholeStep("@ not", ""),
	}
}

// flatSteps lead from an operand to an operand on the same level, and open
// nothing for themselves.
func flatSteps() []step {
	return []step{
		flatStep("1 +", ""), flatStep("x and", "or y"), flatStep(". x *", ""), flatStep("1.5 < $ x -", "and yes"), flatStep("f ( ) /", "% 2"),
	}
}

// roomySteps open something for themselves, and close it again.
func roomySteps() []step {
	return []step{
		flatStep("( 1 ) *", "+ ( 2 )"), flatStep("- x or", "and not y"), flatStep("f ( - 1 , ( 2 ) ) -", ""), flatStep("not not x and", ""), flatStep("pair ( 1 , 2 ) /", "- size ( x )"),
	}
}

// deepText is a text with these steps, and the place of the token with which
// one opens within MaxDepth others; -1 when none does.
func deepText(steps []step) (string, int) {
	ahead, behind := "system s { ", "}"
	open, at := 1, -1
	for _, s := range steps {
		open += s.opens
		if open > impl.MaxDepth && at < 0 {
			at = len(ahead) + strings.Index(s.ahead, "@")
		}
		ahead += unmarked(s)
		behind = s.behind + " " + behind
	}
	if steps[len(steps)-1].toOperand {
		ahead += "1 "
	}
	return ahead + behind, at
}

func unmarked(s step) string { return strings.ReplaceAll(s.ahead+" ", "@ ", "") }

func depthOf(steps []step) int {
	n := 1
	for _, s := range steps {
		n += s.opens
	}
	return n
}

// deepAs asks that just the steps up to MaxDepth are read.
func deepAs(t *testing.T, steps []step) {
	t.Helper()
	text, at := deepText(steps)
	if depthOf(steps) > impl.MaxDepth {
		readRefused(t, text, impl.ParDeep, at)
		return
	}
	x, code, at := impl.Parse(text)
	if code != impl.ParDone || at != 0 || !impl.TreeOk(x) || len(x.Tops) != 1 {
		t.Errorf("nesting %d: %.400s: %d %d", depthOf(steps), text, code, at)
	}
}

func TestDeepByOneKind(t *testing.T) {
	for depth := impl.MaxDepth - 1; depth <= impl.MaxDepth+2; depth++ {
		for _, b := range blockSteps() {
			blocks := slices.Repeat([]step{b}, depth-1)
			deepAs(t, blocks)
			for _, v := range valueSteps() {
				deepAs(t, append(slices.Clone(blocks[1:]), v))
			}
		}
		for _, e := range operandSteps() {
			for _, v := range valueSteps() {
				steps := append([]step{v}, slices.Repeat([]step{e}, depth-2)...)
				deepAs(t, steps)
				for _, f := range flatSteps() {
					deepAs(t, slices.Insert(slices.Clone(steps), 1, f))
					if !isSign(e) {
						deepAs(t, append(slices.Clone(steps), f))
						deepAs(t, slices.Insert(slices.Clone(steps), len(steps)-1, f))
					}
				}
				for _, f := range roomySteps() {
					deepAs(t, slices.Insert(slices.Clone(steps), 1, f))
				}
			}
		}
	}
}

// isSign tells whether what opens has but one operand, so that an operator
// behind that one closes it.
func isSign(s step) bool { return strings.HasPrefix(s.ahead, "@") }

func TestDeepMixed(t *testing.T) {
	d := dice(40)
	limits := 0
	for range 3000 {
		var steps []step
		for range d.roll(30) {
			steps = append(steps, pickStep(&d, blockSteps()))
		}
		steps = append(steps, pickStep(&d, valueSteps()))
		for depthOf(steps) < impl.MaxDepth-1+d.roll(4) {
			e := pickStep(&d, operandSteps())
			steps = append(steps, e)
			if !isSign(e) && d.roll(3) == 0 {
				steps = append(steps, pickStep(&d, flatSteps()))
			}
			if !isSign(e) && d.roll(3) == 0 && depthOf(steps) < impl.MaxDepth-3 {
				steps = append(steps, pickStep(&d, roomySteps()))
			}
		}
		if text, _ := deepText(steps); len(text) > impl.MaxText {
			continue
		}
		if depthOf(steps) == impl.MaxDepth {
			limits++
		}
		deepAs(t, steps)
	}
	if limits < 300 {
		t.Error("only", limits, "at the limit")
	}
}

func pickStep(d *dice, list []step) step { return list[d.roll(len(list))] }

// What has been left is open no more.
func TestDeepAgainAndAgain(t *testing.T) {
	deepest := func(e step) string {
		steps := slices.Repeat([]step{e}, impl.MaxDepth-2)
		text, _ := deepText(append([]step{wholeStep("x = @", ";")}, steps...))
		return strings.TrimSuffix(strings.TrimPrefix(text, "system s {"), "}")
	}
	for _, e := range operandSteps() {
		one := deepest(e)
		readable(t, "system s {"+one+deepest(wholeStep("@ -", ""))+one+"}")
		readable(t, "system s { } system s {"+one+"}")
		inner := strings.TrimSuffix(strings.TrimSpace(strings.TrimPrefix(strings.TrimSpace(one), "x =")), ";")
		readable(t, asValue(inner+"+"+inner+"*"+inner))
		readable(t, "system s { spawn ( A = "+inner+", B = "+inner+") ; do f ( "+inner+", "+inner+") ; }")
		readable(t, "system s { if "+inner+"{ } else { } loop "+inner+"{ } emit E "+inner+"; }")
	}
	blocks, _ := deepText(slices.Repeat([]step{blockStep("if @ x {")}, impl.MaxDepth-1))
	readable(t, blocks+" "+blocks+" "+blocks)
	inner := strings.TrimSuffix(strings.TrimPrefix(blocks, "system s {"), "}")
	readable(t, "system s { "+inner+inner+inner+"}")
}

func readable(t *testing.T, text string) {
	t.Helper()
	x, code, at := impl.Parse(text)
	if code != impl.ParDone || at != 0 || !impl.TreeOk(x) {
		t.Errorf("%.400s: %d %d", text, code, at)
	}
}

// fullOf is a text up to where a statement, or an operand, can stand within
// MaxDepth others.
func fullOf(toOperand bool) string {
	steps := slices.Repeat([]step{blockStep("if @ x {")}, impl.MaxDepth-1)
	if toOperand {
		steps[len(steps)-1] = wholeStep("x = @", "")
	}
	text := "system s { "
	for _, s := range steps {
		text += unmarked(s)
	}
	return text
}

// everyToken has one token of each text and kind.
func everyToken() []string { return slices.Concat(allWords, allMarks, []string{"x", "7", "1.5"}) }

// What would be open within MaxDepth others is too deep at its first token,
// whether that can stand there or not; only where the text has ended it is
// wanted.
func TestDeepAheadOfWant(t *testing.T) {
	inBlock, inValue := fullOf(false), fullOf(true)
	for _, c := range []struct {
		text string
		// The tokens that go on otherwise, so that nothing opens.
		other []string
	}{
		{inBlock + "x =", nil}, {inBlock + "let x =", nil}, {inBlock + ". x =", nil}, {inBlock + "$ x =", nil}, {inBlock + "put x =", nil},
		{inBlock + "if", nil}, {inBlock + "loop", nil}, {inBlock + "emit E", nil}, {inBlock + "return", nil},
		{inBlock + "do f (", []string{")"}}, {inBlock + "spawn ( A =", nil},
		{inBlock + "each with A", []string{",", "without"}}, {inBlock + "each with A , B without C", []string{","}}, {inBlock + "hear E as h", nil},
		{inValue + "(", nil}, {inValue + "f (", []string{")"}}, {inValue + "re (", nil}, {inValue + "im (", nil}, {inValue + "real (", nil}, {inValue + "size (", nil},
		{inValue + "pair (", nil}, {inValue + "pick (", nil}, {inValue + "1 + (", nil},
	} {
		readRefused(t, c.text, impl.ParWant, len(c.text))
		readRefused(t, c.text+" # a remark", impl.ParWant, len(c.text)+11)
		for _, token := range everyToken() {
			text := c.text + " " + token
			if slices.Contains(c.other, token) {
				readRefused(t, text, impl.ParWant, len(text))
				continue
			}
			readRefused(t, text, impl.ParDeep, len(c.text)+1)
			readRefused(t, text+" ; ; ) } x 7", impl.ParDeep, len(c.text)+1)
			readRefused(t, text+" ?", impl.ParLex, len(text)+1)
		}
	}
}

// A sign is too deep at itself; no other token opens anything there.
func TestDeepSigns(t *testing.T) {
	inValue := fullOf(true)
	for _, ahead := range []string{inValue, inValue + "1 + ", inValue + "x < ", inValue + "1 - "} {
		for _, sign := range []string{"-", "not"} {
			readRefused(t, ahead+sign, impl.ParDeep, len(ahead))
			readRefused(t, ahead+sign+" 1 ;", impl.ParDeep, len(ahead))
			readRefused(t, ahead+sign+" ;", impl.ParDeep, len(ahead))
		}
		for _, token := range []string{"+", "*", ";", ")", "}", "{", "let", "and", "of", "int", "=", "==", ","} {
			readRefused(t, ahead+token, impl.ParWant, len(ahead))
		}
		readRefused(t, ahead, impl.ParWant, len(ahead))
	}
	readable(t, inValue+"1 - 2 ; "+strings.Repeat("} ", impl.MaxDepth-1))
	readable(t, inValue+"f ( ) + g ( ) ; "+strings.Repeat("} ", impl.MaxDepth-1))
}

// From the left, the first fault is told, of whichever sort it is.
func TestFirstOfWantAndDeep(t *testing.T) {
	inValue := fullOf(true)
	readRefused(t, inValue+"( 1 ) ; } ; x", impl.ParDeep, len(inValue)+2)
	readRefused(t, inValue+") ( ( (", impl.ParWant, len(inValue))
	readRefused(t, "system s { let = "+inValue+"( (", impl.ParWant, 15)
	readRefused(t, "x "+inValue+"( (", impl.ParWant, 0)
	readRefused(t, inValue+"re x ( (", impl.ParWant, len(inValue)+3)
	readRefused(t, inValue+"f ( ) ( (", impl.ParWant, len(inValue)+6)
	readRefused(t, inValue+"( ( (", impl.ParDeep, len(inValue)+2)
	readRefused(t, inValue+". ( (", impl.ParWant, len(inValue)+2)
	readRefused(t, fullOf(false)+"each ( {", impl.ParWant, len(fullOf(false))+5)
	readRefused(t, fullOf(false)+"{ {", impl.ParWant, len(fullOf(false)))
	readRefused(t, fullOf(false)+"} } else ( {", impl.ParWant, len(fullOf(false))+9)
}

// Statements without anything that opens stand within MaxDepth others.
func TestFlatStatementsAtTheLimit(t *testing.T) {
	readable(t, fullOf(false)+"kill ; drop A ; do f ( ) ; spawn ( ) ; "+strings.Repeat("} ", impl.MaxDepth))
}
