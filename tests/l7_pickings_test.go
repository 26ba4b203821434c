package tests

import (
	"math"
	"slices"
	"testing"

	"loop.example/g01203/impl"
)

// checkPicking checks what IsPicking and LeftCards tell of a list, be it a picking or not.
func checkPicking(t *testing.T, h [][4]int, list [][3]int) {
	t.Helper()
	want := isPickingByCards(h, list)
	if is, ok := impl.IsPicking(h, list); !ok || is != want {
		t.Fatalf("IsPicking(%v, %v) = %v, %v; want %v", h, list, is, ok, want)
	}
	left := [][4]int{}
	for place, c := range h {
		if want && !slices.ContainsFunc(list, func(line [3]int) bool { return slices.Contains(line[:], place) }) {
			left = append(left, c)
		}
	}
	if cards, ok := impl.LeftCards(h, list); ok != want || !slices.Equal(cards, left) {
		t.Fatalf("LeftCards(%v, %v) = %v, %v; want %v, %v", h, list, cards, ok, left, want)
	}
}

// All lists of at most two lines, of any places in a hand of few cards and next to it.
func TestPickingsOfFewCards(t *testing.T) {
	for _, h := range [][][4]int{nil, handOf(0, 1, 2), handOf(0, 1, 3), handOf(0, 1, 2, 40, 80)} {
		lines := [][3]int{}
		for a := -1; a <= len(h); a++ {
			for b := -1; b <= len(h); b++ {
				for c := -1; c <= len(h); c++ {
					lines = append(lines, [3]int{a, b, c})
				}
			}
		}
		checkPicking(t, h, nil)
		for _, line := range lines {
			checkPicking(t, h, [][3]int{line})
			for _, other := range lines {
				checkPicking(t, h, [][3]int{line, other})
			}
		}
	}
}

// All lists of at most three lines of hands with disjoint lines and lines that cross.
func TestPickingsOfFewLines(t *testing.T) {
	for _, h := range [][][4]int{
		handOf(0, 27, 28, 29, 40, 80), smallPickingHand(), handOf(0, 1, 2, 27, 28, 29, 54, 55, 56), allCards()[:9],
	} {
		lines := linesByTraits(h)
		for _, a := range lines {
			for _, b := range lines {
				for _, c := range lines {
					checkPicking(t, h, [][3]int{a, b, c})
				}
				checkPicking(t, h, [][3]int{a, b})
			}
			checkPicking(t, h, [][3]int{a})
		}
	}
}

func TestAllPickingsAreSuch(t *testing.T) {
	for i, h := range partingPools() {
		pickings := pickingsByCards(h)
		for j := i % 5; j < len(pickings); j += 5 {
			checkPicking(t, h, pickings[j])
		}
	}
}

// Pickings that are changed in one line, or in their order.
func TestChangedPickings(t *testing.T) {
	for _, h := range lineHands() {
		picking := greedyByCards(h)
		checkPicking(t, h, picking)
		for i, line := range picking {
			checkPicking(t, h, slices.Insert(slices.Clone(picking), i, line))
			checkPicking(t, h, append(slices.Clone(picking), line))
			checkPicking(t, h, slices.Delete(slices.Clone(picking), i, i+1))
			for _, other := range [][3]int{
				{line[1], line[0], line[2]}, {line[0], line[2], line[1]}, {line[2], line[1], line[0]},
				{line[0], line[1], line[2] + 1}, {line[0], line[1], line[1]}, {line[0], line[1], len(h)},
				{-1, line[1], line[2]}, {}, {line[0], math.MaxInt, math.MinInt},
			} {
				changed := slices.Clone(picking)
				changed[i] = other
				checkPicking(t, h, changed)
			}
		}
		slices.Reverse(picking)
		checkPicking(t, h, picking)
		checkPicking(t, h, linesByTraits(h))
	}
}

func TestListsThatAreNoPickings(t *testing.T) {
	h := handOf(0, 1, 2, 27, 28, 29, 40, 80)
	for _, list := range [][][3]int{
		{{0, 1, 3}},            // no line
		{{0, 1, 2}, {0, 1, 2}}, // the same line twice
		{{0, 1, 2}, {3, 4, 5}, {3, 4, 5}},
		{{3, 4, 5}, {0, 1, 2}}, // lines out of order
		{{0, 2, 1}},            // places out of order
		{{0, 1, 2}, {5, 4, 3}},
		{{0, 1, 2}, {0, 6, 7}}, // lines that cross
		{{-1, 1, 2}},           // places outside the hand
		{{6, 7, 8}},
		{{0, 1, math.MaxInt}},
		{{math.MinInt, 1, 2}},
		{{0, 0, 0}},
		{{0, 1, 2}, {3, 4, 5}, {6, 7, 8}},
		slices.Repeat([][3]int{{0, 1, 2}}, 10000),
	} {
		if is, ok := impl.IsPicking(h, list); !ok || is {
			t.Errorf("IsPicking of %v = %v, %v", list, is, ok)
		}
		if left, ok := impl.LeftCards(h, list); ok || len(left) != 0 {
			t.Errorf("LeftCards of %v = %v, %v", list, left, ok)
		}
	}
	for _, list := range [][][3]int{nil, {}, {{0, 1, 2}}, {{3, 4, 5}}, {{0, 6, 7}}, {{0, 1, 2}, {3, 4, 5}}, {{0, 6, 7}, {3, 4, 5}}} {
		if is, ok := impl.IsPicking(h, list); !ok || !is {
			t.Errorf("IsPicking of %v = %v, %v", list, is, ok)
		}
	}
}

// Neither of these searches, so that all hands will do.
func TestPickingsOfGreatHands(t *testing.T) {
	h := allCards()[27:54]
	lines := [][3]int{{0, 1, 2}, {3, 4, 5}, {6, 7, 8}, {9, 10, 11}, {12, 13, 14}, {15, 16, 17}, {18, 19, 20}, {21, 22, 23}, {24, 25, 26}}
	greedy, ok := impl.GreedyPicking(h)
	if !ok || !slices.Equal(greedy, lines) {
		t.Errorf("GreedyPicking of 27 cards = %v, %v", greedy, ok)
	}
	for n := range len(lines) + 1 {
		if is, ok := impl.IsPicking(h, lines[:n]); !ok || !is {
			t.Errorf("IsPicking of %d lines = %v, %v", n, is, ok)
		}
		if left, ok := impl.LeftCards(h, lines[:n]); !ok || !slices.Equal(left, h[3*n:]) {
			t.Errorf("LeftCards of %d lines = %v, %v", n, left, ok)
		}
	}
}

func TestGreedyPickings(t *testing.T) {
	for _, h := range lineHands() {
		if greedy, ok := impl.GreedyPicking(h); !ok || !slices.Equal(greedy, greedyByCards(h)) {
			t.Fatalf("GreedyPicking(%v) = %v, %v; want %v", h, greedy, ok, greedyByCards(h))
		}
	}
	for _, one := range []struct {
		h    [][4]int
		want [][3]int
	}{
		{nil, nil},
		{handOf(0), nil},
		{handOf(0, 1, 3), nil},
		{handOf(0, 1, 2), [][3]int{{0, 1, 2}}},
		{handOf(0, 1, 2, 40, 80), [][3]int{{0, 1, 2}}},
		{handOf(0, 27, 28, 29, 40, 80), [][3]int{{0, 4, 5}, {1, 2, 3}}},
		{smallPickingHand(), [][3]int{{0, 1, 2}}},
	} {
		if greedy, ok := impl.GreedyPicking(one.h); !ok || !slices.Equal(greedy, one.want) {
			t.Errorf("GreedyPicking(%v) = %v, %v; want %v", one.h, greedy, ok, one.want)
		}
	}
}

func TestLeftCardsHaveTheSameSum(t *testing.T) {
	for _, h := range lineHands() {
		want, _ := impl.SumCards(h)
		picking, _ := impl.GreedyPicking(h)
		for n := range len(picking) + 1 {
			left, ok := impl.LeftCards(h, picking[:n])
			sum, fine := impl.SumCards(left)
			if !ok || !fine || sum != want || len(left) != len(h)-3*n {
				t.Fatalf("LeftCards(%v, %v) = %v, %v with the sum %v; want %v", h, picking[:n], left, ok, sum, want)
			}
		}
	}
	if left, ok := impl.LeftCards(nil, nil); !ok || len(left) != 0 {
		t.Error("no cards", left, ok)
	}
}

func TestPickingsOfOddHandsFail(t *testing.T) {
	for _, h := range oddHands() {
		for _, list := range [][][3]int{nil, {{0, 1, 2}}, {{0, 0, 0}}, {{2, 1, 0}}} {
			if is, ok := impl.IsPicking(h, list); ok || is {
				t.Errorf("IsPicking(%v, %v) = %v, %v", h, list, is, ok)
			}
			if left, ok := impl.LeftCards(h, list); ok || len(left) != 0 {
				t.Errorf("LeftCards(%v, %v) = %v, %v", h, list, left, ok)
			}
		}
		if greedy, ok := impl.GreedyPicking(h); ok || len(greedy) != 0 {
			t.Errorf("GreedyPicking(%v) = %v, %v", h, greedy, ok)
		}
	}
}
