package tests

import (
	"math"
	"math/bits"
	"slices"
	"testing"

	"loop.example/g01203/impl"
)

// capsByTraits returns how many caps of each size there are within a hand, and the places of the
// first one of the greatest. It looks at all sets of places.
func capsByTraits(h [][4]int) ([impl.MaxPool + 1]int, []int) {
	lines := []int{}
	for _, line := range linesByTraits(h) {
		lines = append(lines, 1<<line[0]|1<<line[1]|1<<line[2])
	}
	counts := [impl.MaxPool + 1]int{}
	greatest := []int{}
	for set := range 1 << len(h) {
		if slices.ContainsFunc(lines, func(line int) bool { return set&line == line }) {
			continue
		}
		size := bits.OnesCount(uint(set))
		counts[size]++
		if size < len(greatest) {
			continue
		}
		places := []int{}
		for place := range h {
			if set>>place&1 == 1 {
				places = append(places, place)
			}
		}
		if size > len(greatest) || slices.Compare(places, greatest) < 0 {
			greatest = places
		}
	}
	return counts, greatest
}

// somePools returns hands of at most MaxPool cards, some of them with many lines.
func somePools() [][][4]int {
	pools := [][][4]int{}
	for i, h := range someHands() {
		if len(h) <= 9 || len(h) <= impl.MaxPool && i%3 == 0 {
			pools = append(pools, h)
		}
	}
	for _, numbers := range [][]int{
		{0, 1, 2}, {0, 40, 80}, {0, 1, 2, 3, 6}, {0, 1, 3, 6, 8}, {1, 2, 4, 6, 7}, {2, 4, 5, 6, 8},
		{0, 1, 2, 40, 80}, {1, 2, 3, 6, 40, 41, 42}, {0, 1, 2, 27, 28, 29, 54, 55, 56},
	} {
		pools = append(pools, handOf(numbers...))
	}
	return append(pools, allCards()[:9], allCards()[:impl.MaxPool], allCards()[12:27], allCards()[66:], lowCap()[:impl.MaxPool], greatCap()[:impl.MaxPool])
}

func TestSearchesWithinPools(t *testing.T) {
	for _, h := range somePools() {
		counts, want := capsByTraits(h)
		greatest, ok := impl.GreatestCap(h)
		if !ok || !slices.Equal(greatest, want) {
			t.Errorf("GreatestCap(%v) = %v, %v; want %v", h, greatest, ok, want)
		}
		for n, count := range counts {
			if many, ok := impl.CountCaps(h, n); !ok || many != count {
				t.Errorf("CountCaps(%v, %d) = %d, %v; want %d", h, n, many, ok, count)
			}
		}
		if drops, ok := impl.FewestDrops(h); !ok || drops != len(h)-len(want) {
			t.Errorf("FewestDrops(%v) = %d, %v; want %d", h, drops, ok, len(h)-len(want))
		}
		if greedy, ok := impl.GreedyCap(h); !ok || len(greedy) > len(greatest) {
			t.Errorf("GreedyCap(%v) = %v, %v, but GreatestCap %v", h, greedy, ok, greatest)
		}
	}
}

func TestGreatestCaps(t *testing.T) {
	for _, one := range []struct {
		h     [][4]int
		want  []int
		count int
	}{
		{nil, nil, 1},
		{handOf(40), []int{0}, 1},
		{handOf(0, 1, 2), []int{0, 1}, 3},
		// Here GreedyCap takes three cards, of which one has to go.
		{handOf(0, 1, 2, 3, 6), []int{1, 2, 3, 4}, 1},
		{handOf(0, 1, 3, 6, 8), []int{0, 1, 3, 4}, 1},
		{handOf(2, 4, 5, 6, 8), []int{1, 2, 3, 4}, 1},
		{allCards()[:9], []int{0, 1, 3, 4}, 54},
		{allCards()[:impl.MaxPool], []int{0, 1, 3, 4, 9, 10, 12, 13}, 486},
		{greatCap()[:impl.MaxPool], []int{0, 1, 2, 3, 4, 5, 6, 7, 8, 9, 10, 11, 12, 13, 14}, 1},
	} {
		greatest, ok := impl.GreatestCap(one.h)
		if !ok || !slices.Equal(greatest, one.want) {
			t.Errorf("GreatestCap(%v) = %v, %v; want %v", one.h, greatest, ok, one.want)
		}
		if count, ok := impl.CountCaps(one.h, len(one.want)); !ok || count != one.count {
			t.Errorf("CountCaps(%v, %d) = %d, %v; want %d", one.h, len(one.want), count, ok, one.count)
		}
		if drops, ok := impl.FewestDrops(one.h); !ok || drops != len(one.h)-len(one.want) {
			t.Errorf("FewestDrops(%v) = %d, %v", one.h, drops, ok)
		}
	}
}

func TestCountCapsOfFewAndManyCards(t *testing.T) {
	for _, h := range somePools() {
		n := len(h)
		// The hand without cards is a cap, and so is each one of one or two cards.
		for size, want := range []int{1, n, n * (n - 1) / 2, n*(n-1)*(n-2)/6 - len(linesByTraits(h))} {
			if count, ok := impl.CountCaps(h, size); !ok || count != want {
				t.Errorf("CountCaps(%v, %d) = %d, %v; want %d", h, size, count, ok, want)
			}
		}
		for size := n + 1; size <= impl.MaxPool; size++ {
			if count, ok := impl.CountCaps(h, size); !ok || count != 0 {
				t.Errorf("CountCaps(%v, %d) = %d, %v", h, size, count, ok)
			}
		}
		for _, size := range []int{-1, impl.MaxPool + 1, -impl.MaxPool, 1 << 32, math.MaxInt, math.MinInt} {
			if count, ok := impl.CountCaps(h, size); ok || count != 0 {
				t.Errorf("CountCaps(%v, %d) = %d, %v", h, size, count, ok)
			}
		}
	}
}

func TestSearchesFailForGreaterHands(t *testing.T) {
	lists := oddHands()
	for _, h := range someHands() {
		if len(h) > impl.MaxPool {
			lists = append(lists, h)
		}
	}
	lists = append(lists, lowCap(), greatCap(), allCards()[:impl.MaxPool+1], greatCap()[:impl.MaxPool+1])
	for _, h := range lists {
		if greatest, ok := impl.GreatestCap(h); ok || len(greatest) != 0 {
			t.Errorf("GreatestCap(%v) = %v, %v", h, greatest, ok)
		}
		if drops, ok := impl.FewestDrops(h); ok || drops != 0 {
			t.Errorf("FewestDrops(%v) = %v, %v", h, drops, ok)
		}
		for n := range impl.MaxPool + 1 {
			if count, ok := impl.CountCaps(h, n); ok || count != 0 {
				t.Errorf("CountCaps(%v, %d) = %v, %v", h, n, count, ok)
			}
		}
	}
}

func TestGreedyCaps(t *testing.T) {
	for _, h := range append(someHands(), someCaps()...) {
		want, taken := []int{}, [][4]int{}
		for place, c := range h {
			if len(pairsByTraits(taken, c)) == 0 {
				want, taken = append(want, place), append(taken, c)
			}
		}
		if greedy, ok := impl.GreedyCap(h); !ok || !slices.Equal(greedy, want) {
			t.Errorf("GreedyCap(%v) = %v, %v; want %v", h, greedy, ok, want)
		}
	}
	for _, one := range []struct {
		h    [][4]int
		want []int
	}{
		{nil, nil},
		{handOf(80), []int{0}},
		{handOf(0, 1, 2), []int{0, 1}},
		// A card that is not taken makes no line for those behind it.
		{handOf(0, 1, 2, 3, 6), []int{0, 1, 3}},
		{handOf(0, 1, 2, 4, 6), []int{0, 1, 3, 4}},
		{allCards()[:27], []int{0, 1, 3, 4, 9, 10, 12, 13}},
	} {
		if greedy, ok := impl.GreedyCap(one.h); !ok || !slices.Equal(greedy, one.want) {
			t.Errorf("GreedyCap(%v) = %v, %v; want %v", one.h, greedy, ok, one.want)
		}
	}
	for _, h := range oddHands() {
		if greedy, ok := impl.GreedyCap(h); ok || len(greedy) != 0 {
			t.Errorf("GreedyCap(%v) = %v, %v", h, greedy, ok)
		}
	}
}
