package tests

import (
	"slices"
	"testing"

	"loop.example/g01203/impl"
)

func TestChancesOfLines(t *testing.T) {
	for _, h := range chanceHands() {
		chance, ok := impl.ChanceLine(h)
		checkFraction(t, chance, ok, len(linesByTraits(h)), choicesOf(len(h), 3), "ChanceLine", h)
	}
	for _, one := range []struct {
		h    [][4]int
		want [2]int
	}{
		{handOf(0, 1, 2), [2]int{1, 1}},
		{handOf(0, 40, 80), [2]int{1, 1}},
		{handOf(0, 1, 3), [2]int{0, 1}},
		{handOf(0, 1, 2, 3), [2]int{1, 4}},
		{handOf(0, 1, 2, 3, 6), [2]int{1, 5}},
		{allCards()[:9], [2]int{1, 7}},
		{allCards()[54:], [2]int{1, 25}},
		{greatCap(), [2]int{0, 1}},
	} {
		if chance, ok := impl.ChanceLine(one.h); !ok || chance != one.want {
			t.Errorf("ChanceLine(%v) = %v, %v; want %v", one.h, chance, ok, one.want)
		}
	}
}

func TestChanceLineFails(t *testing.T) {
	lists := append(oddHands(), nil, handOf(0), handOf(80), handOf(0, 1), handOf(79, 80), handOf(13, 40))
	for _, h := range lists {
		chance, ok := impl.ChanceLine(h)
		checkNoFraction(t, chance, ok, "ChanceLine", h)
	}
}

func TestChancesOfKinds(t *testing.T) {
	counts, all := [5]int{}, 0
	cards := allCards()
	for i, a := range cards {
		for j, b := range cards[:i] {
			for _, c := range cards[:j] {
				if isLineByTraits(a, b, c) {
					counts[differByTraits(a, b)]++
					all++
				}
			}
		}
	}
	for k, want := range map[int][2]int{1: {1, 10}, 2: {3, 10}, 3: {2, 5}, 4: {1, 5}} {
		chance, ok := impl.ChanceKind(k)
		checkFraction(t, chance, ok, counts[k], all, "ChanceKind", k)
		if chance != want {
			t.Errorf("ChanceKind(%d) = %v; want %v", k, chance, want)
		}
	}
	for _, k := range append(greatNumbers(), -4, -1, 0, 5, 6) {
		chance, ok := impl.ChanceKind(k)
		checkNoFraction(t, chance, ok, "ChanceKind", k)
	}
}

// differByTraits returns in how many traits two cards differ.
func differByTraits(a, b [4]int) int {
	count := 0
	for trait := range 4 {
		if a[trait] != b[trait] {
			count++
		}
	}
	return count
}

// deckThirds returns for each two different cards the number of the one with which they are a
// line.
func deckThirds() [81][81]int {
	thirds := [81][81]int{}
	cards := allCards()
	for i, a := range cards {
		for j, b := range cards {
			thirds[i][j] = slices.IndexFunc(cards, func(c [4]int) bool { return isLineByTraits(a, b, c) })
		}
	}
	return thirds
}

// deckDraws returns how many lines all choices of 0 to 4 cards of the deck have together, and how
// many of these choices have no line.
func deckDraws() (lines, without, all [5]int) {
	thirds := deckThirds()
	count := func(n, found int) {
		lines[n] += found
		all[n]++
		if found == 0 {
			without[n]++
		}
	}
	count(0, 0)
	for d := range 81 {
		count(1, 0)
		for c := range d {
			count(2, 0)
			for b := range c {
				three := 0
				if thirds[d][c] == b {
					three = 1
				}
				count(3, three)
				for a := range b {
					four := three
					for _, third := range []int{thirds[d][c], thirds[d][b], thirds[c][b]} {
						if third == a {
							four++
						}
					}
					count(4, four)
				}
			}
		}
	}
	return lines, without, all
}

func TestChancesOfFewCardsOfTheDeck(t *testing.T) {
	lines, without, all := deckDraws()
	for n := range 5 {
		mean, ok := impl.MeanLines(n)
		checkFraction(t, mean, ok, lines[n], all[n], "MeanLines", n)
		chance, ok := impl.ChanceNoLine(n)
		checkFraction(t, chance, ok, without[n], all[n], "ChanceNoLine", n)
	}
	for n, want := range [][2]int{{1, 1}, {1, 1}, {1, 1}, {78, 79}, {75, 79}} {
		if chance, ok := impl.ChanceNoLine(n); !ok || chance != want {
			t.Errorf("ChanceNoLine(%d) = %v, %v; want %v", n, chance, ok, want)
		}
	}
	for _, n := range append(greatNumbers(), -4, -1, 5, 6, 27) {
		chance, ok := impl.ChanceNoLine(n)
		checkNoFraction(t, chance, ok, "ChanceNoLine", n)
	}
}

func TestMeansOfLines(t *testing.T) {
	for n := 0; n <= impl.MaxHand; n++ {
		// Each of the 1080 lines is among n cards if its three cards have been drawn.
		mean, ok := impl.MeanLines(n)
		checkFraction(t, mean, ok, 1080*n*(n-1)*(n-2), 81*80*79, "MeanLines", n)
	}
	for n, want := range map[int][2]int{
		0: {0, 1}, 1: {0, 1}, 2: {0, 1}, 3: {1, 79}, 4: {4, 79}, 5: {10, 79}, 12: {220, 79}, 26: {2600, 79}, 27: {2925, 79},
	} {
		if mean, ok := impl.MeanLines(n); !ok || mean != want {
			t.Errorf("MeanLines(%d) = %v, %v; want %v", n, mean, ok, want)
		}
	}
	for _, n := range append(greatNumbers(), -1, -2, -3) {
		mean, ok := impl.MeanLines(n)
		checkNoFraction(t, mean, ok, "MeanLines", n)
	}
}
