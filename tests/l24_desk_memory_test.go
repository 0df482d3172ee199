package tests

import (
	"runtime"
	"strings"
	"testing"
	"time"
	"unsafe"

	"loop.example/g00070/impl"
)

// deskOwn is a text in memory of its own, which its bytes can be written into.
func deskOwn(text string) (string, []byte) {
	own := []byte(text)
	return unsafe.String(unsafe.SliceData(own), len(own)), own
}

func someDesks(seed, n int) []string {
	w := newAuthor(seed)
	texts := []string{"", "\n", "start", deskAhead, "fly", strings.Repeat("\n", impl.MaxLines), "text 9\nx", "start\nshow"}
	for range n {
		texts = append(texts, anyDesk(w, anySideShow(w)))
	}
	return texts
}

// What is told stays as it is when the memory of the text is written over.
func TestDeskTellsInNewMemory(t *testing.T) {
	for _, text := range someDesks(271, 40) {
		own, bytes := deskOwn(text)
		told := impl.Desk(own)
		was := strings.Clone(told)
		if string(bytes) != text {
			t.Fatalf("the text was written into\n%s", numberedLines(text))
		}
		for i := range bytes {
			bytes[i] = '?'
		}
		if told != was {
			t.Fatalf("what is told is a part of the text\n%s", numberedLines(text))
		}
		if want := plainly(t, text).told.String(); was != want {
			t.Fatalf("%s\n%s", firstDifference(was, want), numberedLines(text))
		}
	}
}

// An answer that is written into is told anew.
func TestDeskTellsAnew(t *testing.T) {
	for _, text := range someDesks(272, 30) {
		told := impl.Desk(text)
		was := strings.Clone(told)
		if len(told) > 0 {
			bytes := unsafe.Slice(unsafe.StringData(told), len(told))
			if other := impl.Desk(text); len(other) > 0 && unsafe.StringData(other) == unsafe.StringData(told) {
				t.Fatal("two answers share memory")
			}
			for i := range bytes {
				bytes[i] = '?'
			}
		}
		if again := impl.Desk(text); again != was {
			t.Fatalf("the second time, %s\n%s", firstDifference(again, was), numberedLines(text))
		}
	}
}

// Nothing is kept: other texts between two change nothing, nor does how many
// processors there are.
func TestDesksOneBehindTheOther(t *testing.T) {
	texts := someDesks(273, 30)
	var told []string
	for _, text := range texts {
		told = append(told, impl.Desk(text))
	}
	for _, processors := range []int{1, 2, 8} {
		was := runtime.GOMAXPROCS(processors)
		for i := range texts {
			at := len(texts) - 1 - i
			if got := impl.Desk(texts[at]); got != told[at] {
				t.Errorf("%d processors, %s\n%s", processors, firstDifference(got, told[at]), numberedLines(texts[at]))
			}
		}
		runtime.GOMAXPROCS(was)
	}
}

// Many desks at one time do not meet, and leave nobody behind.
func TestDesksAtOneTime(t *testing.T) {
	texts := someDesks(274, 20)
	var told []string
	for _, text := range texts {
		told = append(told, impl.Desk(text))
	}
	atOnce(t, 60, func(i int) string {
		at := i % len(texts)
		if got := impl.Desk(texts[at]); got != told[at] {
			return firstDifference(got, told[at]) + "\n" + numberedLines(texts[at])
		}
		return ""
	})
}

// The greatest work that a text can ask for is done in some seconds: as many
// frames as there are lines, of systems that go on until their steps are up.
func TestDeskOfMuchWork(t *testing.T) {
	lines := []string{"comp Hp int", "res X int", "text 12"}
	var systems []string
	for _, name := range strings.Split("abcdefghijkl", "") {
		lines = append(lines, "system "+name+" { loop 9999 { loop 9999 { let y = 1; } } }")
		systems = append(systems, "system "+name)
	}
	lines = append(append(lines, systems...), "start")
	for len(lines) < impl.MaxLines {
		lines = append(lines, "frame 0 8")
	}
	text := strings.Join(lines, "\n")
	begun := time.Now()
	told := impl.Desk(text)
	if took := time.Since(begun); took > 2*time.Minute {
		t.Error("it took", took)
	}
	frames := impl.MaxLines - len(systems) - 12 - 4
	if got := strings.Count(told, ": things 0\n"); got != frames {
		t.Error(got, "frames of", frames)
	}
	if got := strings.Count(told, ": trouble "); got != 12*frames {
		t.Error(got, "troubles of", 12*frames)
	}
	if !strings.HasSuffix(told, "\n200: trouble l 3 2000\n200: things 0\n") {
		t.Error(told[max(0, len(told)-200):])
	}
}
