package tests

import (
	"math"
	"slices"
	"testing"

	"loop.example/g01203/impl"
)

// crossingsByPlaces returns how many pairs of lines have just one common place.
func crossingsByPlaces(lines [][3]int) int {
	count := 0
	for i, line := range lines {
		for _, other := range lines[:i] {
			common := 0
			for _, place := range line {
				if slices.Contains(other[:], place) {
					common++
				}
			}
			if common == 1 {
				count++
			}
		}
	}
	return count
}

// openByTraits returns how many pairs of cards of a hand make a line with a card outside it.
func openByTraits(h [][4]int) int {
	count := 0
	for _, c := range othersThan(h) {
		count += len(pairsByTraits(h, c))
	}
	return count
}

func TestLinesAtPlaces(t *testing.T) {
	for _, h := range lineHands() {
		lines := linesByTraits(h)
		for place := range h {
			want := slices.DeleteFunc(slices.Clone(lines), func(line [3]int) bool { return !slices.Contains(line[:], place) })
			if at, ok := impl.LinesAt(h, place); !ok || !slices.Equal(at, want) {
				t.Fatalf("LinesAt(%v, %d) = %v, %v; want %v", h, place, at, ok, want)
			}
		}
		for _, place := range []int{-1, len(h), len(h) + 1, -len(h) - 1, 81, 256, 1 << 32, math.MaxInt, math.MinInt} {
			if at, ok := impl.LinesAt(h, place); ok || len(at) != 0 {
				t.Fatalf("LinesAt(%v, %d) = %v, %v", h, place, at, ok)
			}
		}
	}
}

func TestCountsOfLines(t *testing.T) {
	for _, h := range lineHands() {
		lines := linesByTraits(h)
		want, sum := make([]int, len(h)), 0
		for place, c := range h {
			want[place] = len(pairsByTraits(h, c))
		}
		counts, ok := impl.LineCounts(h)
		if !ok || !slices.Equal(counts, want) {
			t.Fatalf("LineCounts(%v) = %v, %v; want %v", h, counts, ok, want)
		}
		for _, count := range counts {
			sum += count
		}
		if sum != 3*len(lines) {
			t.Fatalf("LineCounts(%v) are %d together, for %d lines", h, sum, len(lines))
		}
		if crossings, ok := impl.CountCrossings(h); !ok || crossings != crossingsByPlaces(lines) {
			t.Fatalf("CountCrossings(%v) = %d, %v; want %d", h, crossings, ok, crossingsByPlaces(lines))
		}
	}
}

// Three times the number of lines, and OpenPairs, are all pairs of cards.
func TestLinesAndOpenPairsAreAllPairs(t *testing.T) {
	for _, h := range lineHands() {
		open, ok := impl.OpenPairs(h)
		if !ok || open != openByTraits(h) {
			t.Fatalf("OpenPairs(%v) = %d, %v; want %d", h, open, ok, openByTraits(h))
		}
		lines, ok := impl.LinesIn(h)
		if !ok || 3*len(lines)+open != len(h)*(len(h)-1)/2 {
			t.Fatalf("%v: %d lines and %d open pairs of %d cards", h, len(lines), open, len(h))
		}
	}
}

func TestKnownLines(t *testing.T) {
	for _, one := range []struct {
		h               [][4]int
		counts          []int
		open, crossings int
	}{
		{nil, nil, 0, 0},
		{[][4]int{}, nil, 0, 0},
		{handOf(0), []int{0}, 0, 0},
		{handOf(0, 80), []int{0, 0}, 1, 0},
		{handOf(0, 1, 2), []int{1, 1, 1}, 0, 0},
		{handOf(0, 1, 3), []int{0, 0, 0}, 3, 0},
		{handOf(0, 1, 2, 40), []int{1, 1, 1, 0}, 3, 0},
		{handOf(0, 1, 2, 40, 80), []int{2, 1, 1, 1, 1}, 4, 1},
		{handOf(0, 1, 2, 27, 28, 29), []int{1, 1, 1, 1, 1, 1}, 9, 0},
		{handOf(0, 1, 2, 3, 6, 9, 18, 27, 54), []int{4, 1, 1, 1, 1, 1, 1, 1, 1}, 24, 6},
		{smallPickingHand(), []int{2, 2, 1, 1, 1, 1, 1}, 12, 2},
		{allCards()[:9], []int{4, 4, 4, 4, 4, 4, 4, 4, 4}, 0, 54},
		{allCards()[54:], slices.Repeat([]int{13}, 27), 0, 27 * 13 * 6},
		{lowCap(), make([]int, 16), 120, 0},
	} {
		if counts, ok := impl.LineCounts(one.h); !ok || !slices.Equal(counts, one.counts) {
			t.Errorf("LineCounts(%v) = %v, %v; want %v", one.h, counts, ok, one.counts)
		}
		if open, ok := impl.OpenPairs(one.h); !ok || open != one.open {
			t.Errorf("OpenPairs(%v) = %d, %v; want %d", one.h, open, ok, one.open)
		}
		if crossings, ok := impl.CountCrossings(one.h); !ok || crossings != one.crossings {
			t.Errorf("CountCrossings(%v) = %d, %v; want %d", one.h, crossings, ok, one.crossings)
		}
	}
}

func TestKnownLinesAtPlaces(t *testing.T) {
	h := handOf(0, 1, 2, 3, 6, 40, 80)
	for place, want := range [][][3]int{
		{{0, 1, 2}, {0, 3, 4}, {0, 5, 6}}, {{0, 1, 2}}, {{0, 1, 2}}, {{0, 3, 4}}, {{0, 3, 4}}, {{0, 5, 6}}, {{0, 5, 6}},
	} {
		if at, ok := impl.LinesAt(h, place); !ok || !slices.Equal(at, want) {
			t.Errorf("LinesAt(%v, %d) = %v, %v; want %v", h, place, at, ok, want)
		}
	}
	if at, ok := impl.LinesAt(handOf(0, 1, 3), 1); !ok || len(at) != 0 {
		t.Error("a card without lines", at, ok)
	}
	if at, ok := impl.LinesAt(nil, 0); ok || len(at) != 0 {
		t.Error("the hand without cards has no places", at, ok)
	}
}

func TestLinesOfOddHandsFail(t *testing.T) {
	for _, h := range oddHands() {
		for place := -1; place <= len(h); place++ {
			if at, ok := impl.LinesAt(h, place); ok || len(at) != 0 {
				t.Errorf("LinesAt(%v, %d) = %v, %v", h, place, at, ok)
			}
		}
		if counts, ok := impl.LineCounts(h); ok || len(counts) != 0 {
			t.Errorf("LineCounts(%v) = %v, %v", h, counts, ok)
		}
		if open, ok := impl.OpenPairs(h); ok || open != 0 {
			t.Errorf("OpenPairs(%v) = %d, %v", h, open, ok)
		}
		if crossings, ok := impl.CountCrossings(h); ok || crossings != 0 {
			t.Errorf("CountCrossings(%v) = %d, %v", h, crossings, ok)
		}
	}
}
