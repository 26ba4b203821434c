package tests

import (
	"fmt"
	"math"
	"slices"
	"testing"

	"loop.example/g01203/impl"
)

// otherCalls are all functions of chapter 10 that take a hand, each as one that tells all of its
// results.
func otherCalls() map[string]func([][4]int) string {
	calls := map[string]func([][4]int) string{
		"QuadsIn":    func(h [][4]int) string { quads, ok := impl.QuadsIn(h); return tell(quads, ok) },
		"IsGhost":    func(h [][4]int) string { ghost, ok := impl.IsGhost(h); return tell(ghost, ok) },
		"GhostsIn":   func(h [][4]int) string { ghosts, ok := impl.GhostsIn(h); return tell(ghosts, ok) },
		"CountKinds": func(h [][4]int) string { counts, ok := impl.CountKinds(h); return tell(counts, ok) },
		"HasQuad":    func(h [][4]int) string { has, ok := impl.HasQuad(h); return tell(has, ok) },
		"NearLines":  func(h [][4]int) string { near, ok := impl.NearLines(h); return tell(near, ok) },
		"SumGhost":   func(h [][4]int) string { zero, ok := impl.SumGhost(h); return tell(zero, ok) },
		"SharedMiddle": func(h [][4]int) string {
			card, count, ok := impl.SharedMiddle(h)
			return tell(card, count, ok)
		},
	}
	for _, kind := range []int{math.MinInt, -1, 0, 1, 2, 3, 4, 5, math.MaxInt} {
		calls[fmt.Sprint("LinesOfKind ", kind)] = func(h [][4]int) string {
			lines, ok := impl.LinesOfKind(h, kind)
			return tell(lines, ok)
		}
	}
	return calls
}

func TestOtherFunctionsReturnAndLeaveTheirArguments(t *testing.T) {
	checkHandCalls(t, otherCalls())
}

// checkApart checks that results of two calls are the same and share no memory, also not behind
// what they have.
func checkApart[T comparable](t *testing.T, name string, call func() ([]T, bool), spoiled T) {
	t.Helper()
	first, _ := call()
	want := slices.Clone(first)
	for i := range first[:cap(first)] {
		first[:cap(first)][i] = spoiled
	}
	if again, ok := call(); !ok || len(again) == 0 || !slices.Equal(again, want) {
		t.Errorf("%s = %v, %v; before that %v", name, again, ok, want)
	}
}

func TestOtherResultsAreApart(t *testing.T) {
	h := allCards()[:9]
	checkApart(t, "MiddlesOf", func() ([][4]int, bool) { return impl.MiddlesOf(h[0], h[1], h[3], h[4]) }, [4]int{7})
	checkApart(t, "QuadsIn", func() ([][4]int, bool) { return impl.QuadsIn(h) }, [4]int{7})
	checkApart(t, "GhostsIn", func() ([][6]int, bool) { return impl.GhostsIn(h) }, [6]int{7})
	checkApart(t, "LinesOfKind", func() ([][3]int, bool) { return impl.LinesOfKind(h, 2) }, [3]int{7})
	checkApart(t, "NearLines", func() ([][3]int, bool) { return impl.NearLines(h) }, [3]int{7})
	if !slices.Equal(h, allCards()[:9]) {
		t.Error("the hand has changed to", h)
	}
}

// The results of searches are the same each time, though they are made with maps.
func TestOtherFunctionsReturnTheSameAgain(t *testing.T) {
	for _, h := range [][][4]int{allCards()[:10], greatCap()[5:15], partedHand([4]int{0, 1, 2, 1}, 3, 5), lowCap()[:12], allCards()[54:]} {
		for name, call := range otherCalls() {
			first := call(h)
			for range 20 {
				if again := call(h); again != first {
					t.Fatalf("%s(%v): %s and %s", name, h, first, again)
				}
			}
		}
	}
}

func TestQuadsHaveAMiddle(t *testing.T) {
	for _, h := range atMost(otherHands(), impl.MaxQuads) {
		quads, ok := impl.QuadsIn(h)
		if !ok {
			t.Fatal("QuadsIn fails for", h)
		}
		for _, quad := range quads {
			middles, ok := impl.MiddlesOf(h[quad[0]], h[quad[1]], h[quad[2]], h[quad[3]])
			if !ok || len(middles) != 1 {
				t.Fatal("the middles of", quad, "are", middles, ok)
			}
			// It is the third card of at least the two pairs of the quad.
			if _, count, ok := impl.SharedMiddle(h); !ok || count < 2 || slices.Contains(cardsOf(h, quad[:]), middles[0]) {
				t.Fatal("the middle of", quad, "is", middles, "but the most pairs", count, ok)
			}
		}
	}
}

func TestGhostsHaveTheSum0(t *testing.T) {
	for _, h := range atMost(otherHands(), impl.MaxGhosts) {
		ghosts, ok := impl.GhostsIn(h)
		if !ok {
			t.Fatal("GhostsIn fails for", h)
		}
		for _, ghost := range ghosts {
			cards := cardsOf(h, ghost[:])
			is, one := impl.IsGhost(cards)
			zero, two := impl.SumGhost(cards)
			if !one || !two || !is || !zero {
				t.Fatal("the ghost", ghost, "of", h, is, one, zero, two)
			}
		}
	}
}

func TestLinesOfAllKindsAreAllLines(t *testing.T) {
	for _, h := range otherHands() {
		all, _ := impl.LinesIn(h)
		counts, ok := impl.CountKinds(h)
		if !ok || counts[1]+counts[2]+counts[3]+counts[4] != len(all) {
			t.Fatal("CountKinds of", h, counts, ok)
		}
		together := [][3]int{}
		for kind := 1; kind <= 4; kind++ {
			lines, _ := impl.LinesOfKind(h, kind)
			together = append(together, lines...)
		}
		slices.SortFunc(together, byPlaces)
		if !slices.Equal(together, all) {
			t.Fatal("LinesOfKind of", h, together, all)
		}
	}
	sum := 0
	for kind := 1; kind <= 4; kind++ {
		count, _ := impl.AllOfKind(kind)
		sum += count
	}
	if sum != 1080 {
		t.Error("AllOfKind tells", sum, "lines")
	}
}
