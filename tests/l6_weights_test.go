package tests

import (
	"slices"
	"testing"

	"loop.example/g01203/impl"
)

// All arrays of numbers in -1..3.
func TestWeightsOfNumbersNearTheLimits(t *testing.T) {
	weights, count := everyWeight(), 0
	for number := range 5 * 5 * 5 * 5 {
		w := [4]int{number/125 - 1, number/25%5 - 1, number/5%5 - 1, number%5 - 1}
		want := slices.Contains(weights, w)
		if impl.IsWeight(w) != want {
			t.Errorf("IsWeight(%v) = %v", w, !want)
		}
		if want {
			count++
		}
	}
	if count != 40 || !slices.IsSortedFunc(weights, byTraits) {
		t.Errorf("there are %d weights: %v", count, weights)
	}
	for _, w := range oddWeights() {
		if impl.IsWeight(w) {
			t.Errorf("%v is valid", w)
		}
	}
}

func TestValuesOfCards(t *testing.T) {
	for _, w := range everyWeight() {
		for _, c := range allCards() {
			if value, ok := impl.ValueBy(c, w); !ok || value != valueByTraits(c, w) {
				t.Errorf("ValueBy(%v, %v) = %d, %v", c, w, value, ok)
			}
		}
		for _, c := range oddCards() {
			if value, ok := impl.ValueBy(c, w); ok || value != 0 {
				t.Errorf("ValueBy(%v, %v) = %d, %v", c, w, value, ok)
			}
		}
	}
	for _, w := range oddWeights() {
		for _, c := range append(oddCards(), allCards()...) {
			if value, ok := impl.ValueBy(c, w); ok || value != 0 {
				t.Errorf("ValueBy(%v, %v) = %d, %v", c, w, value, ok)
			}
		}
	}
	for _, one := range []struct {
		c, w  [4]int
		value int
	}{
		{[4]int{}, [4]int{1, 2, 2, 2}, 0},
		{[4]int{2, 2, 2, 2}, [4]int{1, 2, 2, 2}, 2},
		{[4]int{0, 1, 0, 0}, [4]int{0, 1, 0, 0}, 1},
		{[4]int{2, 1, 0, 1}, [4]int{0, 0, 1, 2}, 2},
		{[4]int{1, 2, 0, 1}, [4]int{1, 0, 1, 1}, 2},
	} {
		if value, ok := impl.ValueBy(one.c, one.w); !ok || value != one.value {
			t.Errorf("ValueBy(%v, %v) = %d, %v; want %d", one.c, one.w, value, ok, one.value)
		}
	}
}

// All cards with the same value by a weight are a space, and each space is so by one weight and
// value: the flats of 27 cards are those of all weights, and no two of them are the same.
func TestSpacesAreFlatsOfOneWeightAndValue(t *testing.T) {
	found := map[[27][4]int]bool{}
	for _, w := range everyWeight() {
		values := [3][][4]int{}
		for _, c := range allCards() {
			value, ok := impl.ValueBy(c, w)
			if !ok {
				t.Fatalf("ValueBy(%v, %v) fails", c, w)
			}
			values[value] = append(values[value], c)
		}
		for value, space := range values {
			checkSpan(t, space, space, 3, true)
			found[[27][4]int(space)] = true
			if spaces, ok := impl.SpacesWith(space); !ok || !slices.Equal(spaces, [][4]int{w}) {
				t.Errorf("SpacesWith(%v) = %v, %v; want %v", space, spaces, ok, w)
			}
			most, weight, at, ok := impl.MostInSpace(space)
			if !ok || most != 27 || weight != w || at != value {
				t.Errorf("MostInSpace(%v) = %d, %v, %d, %v; want %v, %d", space, most, weight, at, ok, w, value)
			}
		}
	}
	if count, ok := impl.CountFlats(3); !ok || len(found) != count {
		t.Errorf("there are %d spaces", len(found))
	}
}

func TestHandsAreSplitByWeights(t *testing.T) {
	for _, h := range flatHands() {
		most, weight, at := -1, [4]int{}, 0
		for _, w := range everyWeight() {
			want := [3]int{}
			for _, c := range h {
				want[valueByTraits(c, w)]++
			}
			if split, ok := impl.SplitBy(h, w); !ok || split != want {
				t.Errorf("SplitBy(%v, %v) = %v, %v; want %v", h, w, split, ok, want)
			}
			for value, count := range want {
				if count > most {
					most, weight, at = count, w, value
				}
			}
		}
		count, w, value, ok := impl.MostInSpace(h)
		if !ok || count != most || w != weight || value != at {
			t.Errorf("MostInSpace(%v) = %d, %v, %d, %v; want %d, %v, %d", h, count, w, value, ok, most, weight, at)
		}
	}
}

func TestKnownSpacesWithMostCards(t *testing.T) {
	for _, one := range []struct {
		h     [][4]int
		most  int
		w     [4]int
		value int
	}{
		{nil, 0, [4]int{0, 0, 0, 1}, 0},
		{handOf(0), 1, [4]int{0, 0, 0, 1}, 0},
		{handOf(80), 1, [4]int{0, 0, 0, 1}, 2},
		{handOf(0, 1), 2, [4]int{0, 0, 1, 0}, 0},
		{handOf(4, 8), 2, [4]int{0, 0, 1, 2}, 0},
		{handOf(0, 40, 80), 3, [4]int{0, 0, 1, 2}, 0},
		{handOf(0, 1, 3, 9), 4, [4]int{1, 0, 0, 0}, 0},
		// Five cards that are in no space: the first four of them that are in one.
		{handOf(0, 1, 3, 9, 27), 4, [4]int{0, 0, 0, 1}, 0},
		{handOf(53, 71, 77, 79, 80), 4, [4]int{0, 0, 0, 1}, 2},
		{allCards()[54:], 27, [4]int{1, 0, 0, 0}, 2},
		{allCards()[20:47], 20, [4]int{1, 0, 0, 0}, 1},
		{allCards()[2:27], 25, [4]int{1, 0, 0, 0}, 0},
	} {
		most, w, value, ok := impl.MostInSpace(one.h)
		if !ok || most != one.most || w != one.w || value != one.value {
			t.Errorf("MostInSpace(%v) = %d, %v, %d, %v; want %d, %v, %d", one.h, most, w, value, ok, one.most, one.w, one.value)
		}
	}
}

// A hand of dimension d, at least 0, is in as many spaces with all of its cards as 3 to the
// power of 4 - d, less 1, divided by 2.
func TestSpacesWithAllCards(t *testing.T) {
	numbers := map[int]int{-1: 40, 0: 40, 1: 13, 2: 4, 3: 1, 4: 0}
	for _, h := range flatHands() {
		spaces, ok := impl.SpacesWith(h)
		if want := weightsWith(h); !ok || !slices.Equal(spaces, want) {
			t.Errorf("SpacesWith(%v) = %v, %v; want %v", h, spaces, ok, want)
		}
		if d, ok := impl.DimensionOf(h); !ok || len(spaces) != numbers[d] {
			t.Errorf("%v of dimension %d, %v is in %d spaces", h, d, ok, len(spaces))
		}
	}
	for _, one := range []struct{ h, want [][4]int }{
		{nil, everyWeight()},
		{handOf(17), everyWeight()},
		{allCards()[:9], [][4]int{{0, 1, 0, 0}, {1, 0, 0, 0}, {1, 1, 0, 0}, {1, 2, 0, 0}}},
		{handOf(0, 1, 3), [][4]int{{0, 1, 0, 0}, {1, 0, 0, 0}, {1, 1, 0, 0}, {1, 2, 0, 0}}},
		{handOf(0, 13, 27, 30), [][4]int{{0, 1, 0, 2}}},
		{handOf(0, 1, 3, 9, 27), nil},
	} {
		if spaces, ok := impl.SpacesWith(one.h); !ok || !slices.Equal(spaces, one.want) {
			t.Errorf("SpacesWith(%v) = %v, %v; want %v", one.h, spaces, ok, one.want)
		}
	}
}

// checkNoSplit checks that a hand is not split by a weight.
func checkNoSplit(t *testing.T, h [][4]int, w [4]int) {
	t.Helper()
	if split, ok := impl.SplitBy(h, w); ok || split != [3]int{} {
		t.Errorf("SplitBy(%v, %v) = %v, %v", h, w, split, ok)
	}
}

func TestWeightsOfOddHands(t *testing.T) {
	for _, h := range oddHands() {
		for _, w := range append(oddWeights(), everyWeight()...) {
			checkNoSplit(t, h, w)
		}
		if most, w, value, ok := impl.MostInSpace(h); ok || most != 0 || w != [4]int{} || value != 0 {
			t.Errorf("MostInSpace(%v) = %d, %v, %d, %v", h, most, w, value, ok)
		}
		if spaces, ok := impl.SpacesWith(h); ok || len(spaces) != 0 {
			t.Errorf("SpacesWith(%v) = %v, %v", h, spaces, ok)
		}
	}
	for _, w := range oddWeights() {
		for _, h := range [][][4]int{nil, handOf(80), handOf(0, 40, 80), allCards()[:27]} {
			checkNoSplit(t, h, w)
		}
	}
}
