package tests

import (
	"fmt"
	"slices"
	"strconv"
	"strings"
	"testing"

	"loop.example/g00070/impl"
)

// deskWrong are lines that are no orders, or have other words.
var deskWrong = []string{
	"fly", "Comp Hp int", "comp Hp", "comp Hp Int", "res X", "event Hit int 1", "text -1", "text", "system", "when", "every 01",
	"gate 1", "order a", "strict no", "plan 1", "clashes 0", "start 0", "set Score", "frame 1", "frame 1 +1", "show all", "\tplan", "plan\r", "\xff\xfe",
}

// anyLine is a line with more blanks than it must have, or just as it is.
func anyLine(d *dice, words ...any) string {
	line := strings.TrimSuffix(fmt.Sprintln(words...), "\n")
	if d.roll(4) > 0 {
		return line
	}
	wide := strings.Repeat(" ", d.roll(3))
	for word := range strings.SplitSeq(line, " ") {
		wide += word + strings.Repeat(" ", 1+d.roll(3))
	}
	return wide
}

// deskText tells a schedule by orders; a text is one item with its order, as are
// a system and what it has. Phases that are no number of an order are others.
func deskText(w *author, s impl.Sched) []string {
	d := &w.dice
	kinds := []string{"", "int", "real", "pair", "bool"}
	var items []string
	for _, list := range []struct {
		word  string
		decls []impl.Decl
	}{{"comp", s.Reg.Comps}, {"res", s.Reg.Ress}, {"event", s.Reg.Evts}} {
		for _, one := range list.decls {
			items = append(items, anyLine(d, list.word, one.Name, kinds[one.Kind]))
		}
	}
	text := strings.TrimSuffix(s.Text, "\n")
	items = append(items, anyLine(d, "text", strings.Count(text, "\n")+1)+"\n"+text)
	for _, system := range s.Systems {
		items = append(items, deskSystem(w, system))
	}
	for _, rule := range s.Rules {
		items = append(items, anyLine(d, "order", rule.Before, rule.After))
	}
	if s.Strict {
		items = append(items, "strict")
	}
	return items
}

func deskSystem(w *author, system impl.Sys) string {
	d := &w.dice
	var items []string
	if system.When != "" {
		items = append(items, anyLine(d, "when", system.When))
	}
	if system.Every > 0 {
		items = append(items, anyLine(d, "every", system.Every))
	}
	if system.Gate > 0 {
		phase := system.Phase
		if phase < 0 || phase > 999999999 {
			phase = d.roll(4)
		}
		items = append(items, anyLine(d, "gate", system.Gate, phase))
	}
	first := anyLine(d, "system", strings.TrimSpace(system.Name+" "+strings.Join(system.Sets, " ")))
	return strings.Join(append([]string{first}, w.shuffled(items)...), "\n")
}

func anyFrameLine(d *dice, right bool) string {
	tick, workers := anyTick(d), 1+d.roll(impl.MaxWorkers)
	if !right {
		tick, workers = oneOf(d, []int{tick, impl.MaxTick + 1, 999999999}), oneOf(d, []int{workers, 0, impl.MaxWorkers + 1})
	}
	words := []any{"frame", tick, workers}
	for range d.roll(40) * d.roll(2) {
		words = append(words, oneOf(d, []int{0, 1, 2, d.roll(20), 999999999}))
	}
	return anyLine(d, words...)
}

// anyPlayLine is an order that needs a game, mostly one that can be done.
func anyPlayLine(d *dice, r impl.Reg) string {
	var ress, comps []string
	for _, one := range r.Ress {
		ress = append(ress, one.Name)
	}
	for _, one := range r.Comps {
		comps = append(comps, one.Name)
	}
	switch d.roll(6) {
	case 0:
		return anyLine(d, "show")
	case 1:
		return anyLine(d, "set", oneOf(d, append(ress, "Over", "Score", "No")), oneOf(d, []string{"yes", "no", "0", "1", "7", "999999999", "1000000000", "x"}))
	case 2, 3:
		var words []string
		for range d.roll(4) {
			words = append(words, oneOf(d, comps))
		}
		if d.roll(12) == 0 {
			words = append(words, "No")
		}
		return anyLine(d, strings.TrimSpace("spawn "+strings.Join(words, " ")))
	}
	return anyFrameLine(d, d.roll(8) > 0)
}

// anyDesk is a schedule, somewhat spoiled at times, and orders that play it,
// with changes between, here and there.
func anyDesk(w *author, s impl.Sched) string {
	d := &w.dice
	items := deskText(w, s)
	if d.roll(5) == 0 {
		items = w.shuffled(items)
	}
	if d.roll(8) == 0 {
		at := d.roll(len(items))
		items = slices.Delete(items, at, at+1)
	}
	if d.roll(12) > 0 {
		items = append(items, "start")
	}
	for range 3 + d.roll(16) {
		switch d.roll(12) {
		case 0:
			items = append(items, anyLine(d, oneOf(d, []string{"plan", "clashes"})))
		case 1:
			items = append(items, anyLine(d, oneOf(d, []string{"every 1", "gate 0 0", "strict", "order a b", "when Over", "comp New int"})))
		case 2, 3:
			items = append(items, anyLine(d, "start"))
		default:
			items = append(items, anyPlayLine(d, s.Reg))
		}
	}
	items = append(items, oneOf(d, []string{"plan", "clashes", "show"}))
	for range d.roll(6) {
		items = slices.Insert(items, d.roll(len(items)+1), oneOf(d, append(deskWrong, "#", "# a remark", "", "  ", " #x")))
	}
	return strings.Join(items, "\n") + oneOf(d, []string{"", "\n"})
}

func anyDeskSched(w *author) impl.Sched {
	if w.roll(6) == 0 {
		return anySched(&w.dice)
	}
	return anySideShow(w)
}

// toldWords counts the first words of what is told; of errors, with their number.
func toldWords(told string, count map[string]int) {
	for line := range strings.Lines(told) {
		words := strings.Fields(line)
		word := strings.Join(words[1:min(len(words), 2)], "")
		if word == "error" && len(words) > 2 {
			word += " " + words[2]
		}
		count[word]++
		if strings.Contains(line, " +") {
			count["+"]++
		}
	}
}

func TestAnyDesks(t *testing.T) {
	w := newAuthor(261)
	count := map[string]int{}
	for range 500 {
		text := anyDesk(w, anyDeskSched(w))
		lines := strings.Count(text, "\n") + 1
		cuts := []int{w.roll(lines), w.roll(lines), w.roll(lines), lines}
		toldWords(deskHoldsAt(t, text, func(n int) bool { return slices.Contains(cuts, n) }), count)
	}
	for word, least := range map[string]int{
		"ok": 3000, "none": 30, "stage": 1000, "+": 500, "things": 500, "trouble": 200, "thing": 100, "table": 200,
		"error 1": 200, "error 3": 1, "error 4": 200, "error 5": 20, "error 6": 50, "error 7": 200,
	} {
		if count[word] < least {
			t.Errorf("hardly any %q: %d of %v", word, count[word], count)
		}
	}
}

// otherHands is the same text with other workers and picks in each frame that
// may be, and which lines these are.
func otherHands(d *dice, text string) (string, map[int]bool) {
	frames := map[int]bool{}
	lines := strings.Split(text, "\n")
	for i, line := range lines {
		words := strings.Fields(line)
		if len(words) < 3 || words[0] != "frame" || words[2] == "0" || words[2] == "9" || len(words[2]) > 1 || !deskRows["frame"].MatchString(strings.Join(words, " ")) {
			continue
		}
		others := strings.Fields(anyFrameLine(d, true))
		others[1] = words[1]
		lines[i] = strings.Join(others, " ")
		frames[i+1] = true
	}
	return strings.Join(lines, "\n"), frames
}

// withoutMoves is what is told, with the moves of frames in the order of their
// words.
func withoutMoves(told string, frames map[int]bool) string {
	var b strings.Builder
	for line := range strings.Lines(told) {
		number, _, _ := strings.Cut(line, ":")
		at, _ := strconv.Atoi(number)
		words := strings.Fields(line)
		if frames[at] && len(words) > 3 && words[1] == "stage" {
			slices.Sort(words[3:])
			line = strings.Join(words, " ") + "\n"
		}
		b.WriteString(line)
	}
	return b.String()
}

// The same text with other workers and picks tells as many things, the same
// troubles and the same world; only the order of moves within a stage differs.
func TestAnyDesksByOtherHands(t *testing.T) {
	w := newAuthor(262)
	turned, frames := 0, 0
	for range 400 {
		text := anyDesk(w, anySideShow(w))
		told := impl.Desk(text)
		for range 3 {
			other, at := otherHands(&w.dice, text)
			otherTold := impl.Desk(other)
			if got, want := withoutMoves(otherTold, at), withoutMoves(told, at); got != want {
				t.Fatalf("by other workers, %s\n%s\n%s", firstDifference(got, want), numberedLines(text), numberedLines(other))
			}
			turned += yes(otherTold != told)
			frames += len(at)
		}
	}
	if turned < 200 || frames < 2000 {
		t.Error("hardly any:", turned, frames)
	}
}

// What stands ahead is told alike whatever stands behind it.
func TestAnyDesksWithOthersBehind(t *testing.T) {
	w := newAuthor(263)
	for range 150 {
		first, next := anyDesk(w, anySideShow(w))+"\n", anyDesk(w, anyDeskSched(w))
		if strings.Count(first+next, "\n") >= impl.MaxLines || len(first+next) > impl.MaxDesk {
			continue
		}
		told, both := impl.Desk(first), impl.Desk(first+next)
		if !strings.HasPrefix(both, told) {
			t.Fatalf("%s\n%s", firstDifference(both, told), numberedLines(first+next))
		}
		if want := plainly(t, first+next).told.String(); both != want {
			t.Fatalf("%s\n%s", firstDifference(both, want), numberedLines(first+next))
		}
	}
}

// Texts of any bytes, and of words of orders thrown together.
func TestDesksOfAnyWords(t *testing.T) {
	d := dice(264)
	words := strings.Split("comp res event text system when every gate order strict plan clashes start spawn set frame show int real pair bool yes no # #x A B C a b X 0 1 2 3 8 9 007 -1 1000000000 999999999 { } \t \x00 \xff", " ")
	words = append(words, "", "", "system a { }", "system b { $X = $X + 1; }", "res X int", "comp A int", "frame 1 1", "start\nshow", "spawn A", "set X 3", "text 40")
	count := map[string]int{}
	for range 3000 {
		text := ""
		for range d.roll(30) {
			text += oneOf(&d, words) + oneOf(&d, []string{" ", " ", "\n", "\n", "\n", "  ", " \n"})
		}
		toldWords(deskHoldsAt(t, text, func(n int) bool { return n == strings.Count(text, "\n")/2 }), count)
	}
	for i := 1; i <= 7; i++ {
		if word := "error " + strconv.Itoa(i); count[word] < 10 && i != 5 {
			t.Error("hardly any:", word, count)
		}
	}
	for range 2000 {
		bytes := make([]byte, d.roll(60))
		for i := range bytes {
			bytes[i] = oneOf(&d, []byte{0, 1, 9, 10, 10, 13, 32, 32, '#', 'a', 127, 128, 160, 194, 133, 255, byte(d.roll(256))})
		}
		deskHoldsAt(t, string(bytes), func(int) bool { return true })
	}
}
