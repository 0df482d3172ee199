package tests

import (
	"slices"
	"testing"

	"loop.example/g00070/impl"
)

func (s *stamps) clashes(list []impl.Clash) {
	stamp(s, list, func(n int) impl.Clash { return impl.Clash{Sort: -1, At: n} }, func(c impl.Clash) int { return c.At })
}

// Both effects, with room ahead of each list and behind it, are as they were
// behind each call; and whatever is written into one answer, the arguments and
// the next answer are as before.
func TestClashesLeaveTheArgumentsAlone(t *testing.T) {
	for _, a := range memoryEffects() {
		for _, b := range memoryEffects() {
			for _, comps := range []int{-1, 0, 3, impl.MaxDecls} {
				want, wantStrict := slices.Clone(impl.Clashes(a, b)), slices.Clone(impl.Strictly(a, b, comps))
				var g guards
				var s stamps
				roomyA, roomyB := g.roomyEff(a), g.roomyEff(b)
				for range 2 {
					clashes := impl.Clashes(roomyA, roomyB)
					if !slices.Equal(clashes, want) || !g.kept() {
						t.Fatalf("Clashes of %q and %q: %q, arguments kept: %v", effText(a), effText(b), clashText(clashes), g.kept())
					}
					strict := impl.Strictly(roomyA, roomyB, comps)
					if !slices.Equal(strict, wantStrict) || !g.kept() {
						t.Fatalf("Strictly of %q and %q: %q, arguments kept: %v", effText(a), effText(b), clashText(strict), g.kept())
					}
					if impl.Apart(roomyA, roomyB) != (len(want) == 0) || !g.kept() {
						t.Fatalf("Apart of %q and %q, arguments kept: %v", effText(a), effText(b), g.kept())
					}
					s.clashes(clashes)
					s.clashes(strict)
				}
				if !s.kept() {
					t.Fatal("two answers share memory:", effText(a), effText(b))
				}
			}
		}
	}
}

// Lists of both arguments may lie in one memory, one within the other.
func TestClashesOfListsThatShareInTheArguments(t *testing.T) {
	nums := []int{3, 1, 2, 2, 0, 5}
	a := impl.Effect{Write: nums[:3], Add: nums[:1], WriteRes: nums[2:], Send: nums[4:], Kills: true}
	b := impl.Effect{Read: nums, Match: nums[1:2], ReadRes: nums[:4], Hear: nums[:5], Add: nums[:0]}
	for range 3 {
		clashesAre(t, a, b, "comp 1, comp 2, comp 3, res 2, evt 0")
		strictlyAre(t, a, b, 1, "comp 1, comp 2, comp 3, res 2, evt 0, cmd 0, cmd 3")
		clashesAre(t, a, a, "comp 1, comp 2, comp 3, res 0, res 2, res 5, evt 0, evt 5")
		clashesAre(t, b, b, "")
	}
	if !slices.Equal(nums, []int{3, 1, 2, 2, 0, 5}) {
		t.Error("an argument was written into:", nums)
	}
}

// Nothing is kept: other effects between two calls change nothing.
func TestClashesOneBehindTheOther(t *testing.T) {
	first, second := effOf("Write 1 Add 2"), effOf("Read 1 Match 2 Kills")
	for range 20 {
		strictlyAre(t, first, second, 2, "comp 1, cmd 1, cmd 2")
		strictlyAre(t, second, second, 2, "cmd 0, cmd 1")
		clashesAre(t, first, first, "comp 1")
		clashesAre(t, second, second, "")
		list := impl.Strictly(first, second, 2)
		scribble(list, impl.Clash{Sort: impl.ClashEvt, At: 7})
	}
}
