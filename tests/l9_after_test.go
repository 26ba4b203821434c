package tests

import (
	"testing"

	"loop.example/g01203/impl"
)

// afterSums returns how many lines a hand has together with each choice of 0, 1 and 2 cards of
// its rest, and how many choices there are. The lines of each choice are counted one by one.
func afterSums(h [][4]int) (sums, all [3]int) {
	rest := othersThan(h)
	add := func(drawn ...[4]int) {
		sums[len(drawn)] += len(linesByTraits(joinedHand(h, drawn)))
		all[len(drawn)]++
	}
	add()
	for i, c := range rest {
		add(c)
		for _, d := range rest[:i] {
			add(c, d)
		}
	}
	return sums, all
}

// afterCounts is afterSums, but the lines of two cards are found as those of the hand, those with
// one of the two, and those with both.
func afterCounts(h [][4]int, thirds [81][81]int) (sums, all [3]int) {
	lines := len(linesByTraits(h))
	rest := othersThan(h)
	pairs := make([]int, len(rest))
	for i, c := range rest {
		pairs[i] = len(pairsByTraits(h, c))
		sums[1] += lines + pairs[i]
	}
	held := [81]bool{}
	for _, c := range h {
		held[numberByTraits(c)] = true
	}
	for i, c := range rest {
		for j, d := range rest[:i] {
			sums[2] += lines + pairs[i] + pairs[j]
			if held[thirds[numberByTraits(c)][numberByTraits(d)]] {
				sums[2]++
			}
		}
	}
	sums[0] = lines
	return sums, [3]int{1, len(rest), choicesOf(len(rest), 2)}
}

func checkMeansAfter(t *testing.T, h [][4]int, sums, all [3]int) {
	t.Helper()
	for n := range 3 {
		mean, ok := impl.MeanAfter(h, n)
		checkFraction(t, mean, ok, sums[n], all[n], "MeanAfter", h, n)
	}
}

func TestMeansAfterFewCards(t *testing.T) {
	for _, numbers := range [][]int{{}, {0}, {40}, {80}, {0, 1}, {13, 77}, {0, 40, 80}, {1, 2, 3}, {0, 1, 2, 3, 6}, {5, 17, 40, 62}} {
		h := handOf(numbers...)
		sums, all := afterSums(h)
		checkMeansAfter(t, h, sums, all)
	}
}

func TestMeansAfterCards(t *testing.T) {
	thirds := deckThirds()
	hands := [][][4]int{}
	for i, h := range chanceHands() {
		// A hand of MaxHand cards can be drawn to as well.
		if i%3 == 0 || len(h) >= impl.MaxHand-1 {
			hands = append(hands, h)
		}
	}
	for _, h := range hands {
		sums, all := afterCounts(h, thirds)
		checkMeansAfter(t, h, sums, all)
	}
}

func TestMeansAfterSomeCards(t *testing.T) {
	for _, one := range []struct {
		h    [][4]int
		n    int
		want [2]int
	}{
		{nil, 0, [2]int{0, 1}},
		{nil, 1, [2]int{0, 1}},
		{nil, 2, [2]int{0, 1}},
		{handOf(7), 1, [2]int{0, 1}},
		{handOf(7), 2, [2]int{1, 79}},
		{handOf(0, 1), 1, [2]int{1, 79}},
		{handOf(0, 1), 2, [2]int{4, 79}},
		{handOf(0, 1, 2), 0, [2]int{1, 1}},
		{handOf(0, 1, 2), 1, [2]int{1, 1}},
		{handOf(0, 1, 2, 3, 6), 0, [2]int{2, 1}},
		{handOf(0, 1, 2, 3, 6), 1, [2]int{39, 19}},
		// No other card makes a line with two cards of a plane or of a space, but two others do
		// with one of its cards.
		{allCards()[:9], 0, [2]int{12, 1}},
		{allCards()[:9], 1, [2]int{12, 1}},
		{allCards()[:9], 2, [2]int{861, 71}},
		{allCards()[27:54], 0, [2]int{117, 1}},
		{allCards()[27:54], 1, [2]int{117, 1}},
		{allCards()[27:54], 2, [2]int{6228, 53}},
	} {
		if mean, ok := impl.MeanAfter(one.h, one.n); !ok || mean != one.want {
			t.Errorf("MeanAfter(%v, %d) = %v, %v; want %v", one.h, one.n, mean, ok, one.want)
		}
	}
}

func TestMeanAfterFails(t *testing.T) {
	for _, h := range oddHands() {
		for n := range 3 {
			mean, ok := impl.MeanAfter(h, n)
			checkNoFraction(t, mean, ok, "MeanAfter", h, n)
		}
	}
	for _, h := range [][][4]int{nil, handOf(0), handOf(0, 1), handOf(0, 1, 2), allCards()[:27]} {
		for _, n := range append(greatNumbers(), -2, -1, 3, 4) {
			mean, ok := impl.MeanAfter(h, n)
			checkNoFraction(t, mean, ok, "MeanAfter", h, n)
		}
	}
}

// Means grow with cards as chances tell: what one more card of the deck brings is the mean of
// what each card brings.
func TestMeansOfLinesGrowWithCards(t *testing.T) {
	for n := range 3 {
		after, ok := impl.MeanAfter(nil, n)
		mean, _ := impl.MeanLines(n)
		checkFraction(t, after, ok, mean[0], mean[1], "MeanAfter no card", n)
	}
	for _, c := range allCards() {
		after, ok := impl.MeanAfter([][4]int{c}, 2)
		mean, _ := impl.MeanLines(3)
		checkFraction(t, after, ok, mean[0], mean[1], "MeanAfter", c, 2)
	}
	for i, h := range chanceHands() {
		if i%40 != 0 || len(h) == impl.MaxHand {
			continue
		}
		// All denominators divide the number of choices behind one more card.
		rest := othersThan(h)
		sum, all := 0, len(rest)*(len(rest)-1)
		for _, c := range rest {
			mean, _ := impl.MeanAfter(joinedHand(h, [][4]int{c}), 1)
			sum += mean[0] * (len(rest) - 1) / mean[1]
		}
		mean, ok := impl.MeanAfter(h, 2)
		checkFraction(t, mean, ok, sum, all, "MeanAfter", h, 2)
	}
}

// One card more than n makes a line with each pair of them with the chance that the third card of
// the pair is drawn.
func TestMeansOfMoreCardsOfTheDeck(t *testing.T) {
	for n := range impl.MaxHand {
		mean, _ := impl.MeanLines(n)
		more, ok := impl.MeanLines(n + 1)
		checkFraction(t, more, ok, mean[0]*79/mean[1]+n*(n-1)/2, 79, "MeanLines", n+1)
	}
}

// MeanLines of three cards is ChanceLine of the whole deck, which is no hand.
func TestMeanLinesOfThreeCards(t *testing.T) {
	mean, ok := impl.MeanLines(3)
	checkFraction(t, mean, ok, len(linesByTraits(allCards())), choicesOf(81, 3), "MeanLines", 3)
	if mean != [2]int{1, 79} {
		t.Error("MeanLines(3) =", mean)
	}
}
