package tests

import (
	"slices"
	"testing"

	"loop.example/g01203/impl"
)

func TestChancesOfBlockedCards(t *testing.T) {
	for _, h := range chanceHands() {
		chance, ok := impl.ChanceBlocked(h)
		checkFraction(t, chance, ok, len(blockedByTraits(h)), 81-len(h), "ChanceBlocked", h)
	}
	for _, one := range []struct {
		h    [][4]int
		want [2]int
	}{
		{nil, [2]int{0, 1}},
		{handOf(80), [2]int{0, 1}},
		{handOf(0, 1), [2]int{1, 79}},
		{handOf(0, 1, 2), [2]int{0, 1}},
		{handOf(0, 1, 3), [2]int{1, 26}},
		{handOf(0, 1, 2, 3, 6), [2]int{1, 19}},
		{allCards()[:9], [2]int{0, 1}},
		{allCards()[:27], [2]int{0, 1}},
		// Full caps block all cards that are not in them.
		{lowCap(), [2]int{1, 1}},
		{greatCap(), [2]int{1, 1}},
	} {
		if chance, ok := impl.ChanceBlocked(one.h); !ok || chance != one.want {
			t.Errorf("ChanceBlocked(%v) = %v, %v; want %v", one.h, chance, ok, one.want)
		}
	}
	for _, h := range oddHands() {
		chance, ok := impl.ChanceBlocked(h)
		checkNoFraction(t, chance, ok, "ChanceBlocked", h)
	}
}

func TestChancesOfCaps(t *testing.T) {
	for _, h := range somePools() {
		counts, _ := capsByTraits(h)
		for n, count := range counts {
			chance, ok := impl.ChanceCap(h, n)
			checkFraction(t, chance, ok, count, choicesOf(len(h), n), "ChanceCap", h, n)
		}
	}
	for _, one := range []struct {
		h    [][4]int
		n    int
		want [2]int
	}{
		{nil, 0, [2]int{1, 1}},
		{handOf(40), 0, [2]int{1, 1}},
		{handOf(40), 1, [2]int{1, 1}},
		{handOf(0, 1), 2, [2]int{1, 1}},
		{handOf(0, 1, 2), 2, [2]int{1, 1}},
		{handOf(0, 1, 2), 3, [2]int{0, 1}},
		{handOf(0, 1, 2, 3, 6), 4, [2]int{1, 5}},
		{handOf(0, 1, 2, 3, 6), 5, [2]int{0, 1}},
		{allCards()[:9], 4, [2]int{3, 7}},
		{allCards()[:impl.MaxPool], 8, [2]int{54, 715}},
		{greatCap()[:impl.MaxPool], impl.MaxPool, [2]int{1, 1}},
		{allCards()[:impl.MaxPool], impl.MaxPool, [2]int{0, 1}},
	} {
		if chance, ok := impl.ChanceCap(one.h, one.n); !ok || chance != one.want {
			t.Errorf("ChanceCap(%v, %d) = %v, %v; want %v", one.h, one.n, chance, ok, one.want)
		}
	}
}

func TestChanceCapFails(t *testing.T) {
	for _, h := range somePools() {
		for _, n := range append(greatNumbers(), -1, -2, impl.MaxPool+1, len(h)+1, -len(h)-1) {
			chance, ok := impl.ChanceCap(h, n)
			checkNoFraction(t, chance, ok, "ChanceCap", h, n)
		}
	}
	lists := append(oddHands(), lowCap(), greatCap(), allCards()[:impl.MaxPool+1], greatCap()[:impl.MaxPool+1], allCards()[:27])
	for _, h := range lists {
		for n := range impl.MaxPool + 2 {
			chance, ok := impl.ChanceCap(h, n)
			checkNoFraction(t, chance, ok, "ChanceCap", h, n)
		}
	}
}

func TestChancesThatLinesStay(t *testing.T) {
	for _, h := range chanceHands() {
		lines := linesByTraits(h)
		count := 0
		for _, line := range lines {
			left := [][4]int{}
			for place, c := range h {
				if !slices.Contains(line[:], place) {
					left = append(left, c)
				}
			}
			if len(linesByTraits(left)) > 0 {
				count++
			}
		}
		chance, ok := impl.ChanceStays(h)
		checkFraction(t, chance, ok, count, len(lines), "ChanceStays", h)
	}
	for _, one := range []struct {
		h    [][4]int
		want [2]int
	}{
		{handOf(0, 40, 80), [2]int{0, 1}},
		{handOf(0, 1, 2, 3), [2]int{0, 1}},
		{handOf(0, 1, 2, 3, 6), [2]int{0, 1}},
		{handOf(0, 1, 2, 3, 4, 5), [2]int{1, 1}},
		// The line 0, 1, 2 crosses both of the others, which are disjoint.
		{handOf(0, 1, 2, 3, 6, 10, 19), [2]int{2, 3}},
		// Each line of a plane or of a space has others beside it.
		{allCards()[:9], [2]int{1, 1}},
		{allCards()[:27], [2]int{1, 1}},
	} {
		if chance, ok := impl.ChanceStays(one.h); !ok || chance != one.want {
			t.Errorf("ChanceStays(%v) = %v, %v; want %v", one.h, chance, ok, one.want)
		}
	}
}

func TestChanceStaysFails(t *testing.T) {
	lists := append(oddHands(), nil, handOf(0), handOf(0, 1), handOf(0, 1, 3), lowCap(), greatCap())
	for _, h := range append(lists, someCaps()...) {
		chance, ok := impl.ChanceStays(h)
		checkNoFraction(t, chance, ok, "ChanceStays", h)
	}
}

func TestMeansOfTraitsThatDiffer(t *testing.T) {
	for _, h := range chanceHands() {
		sum := 0
		for i, a := range h {
			for _, b := range h[:i] {
				sum += differByTraits(a, b)
			}
		}
		mean, ok := impl.MeanDiffer(h)
		checkFraction(t, mean, ok, sum, choicesOf(len(h), 2), "MeanDiffer", h)
	}
	for _, one := range []struct {
		h    [][4]int
		want [2]int
	}{
		{handOf(0, 1), [2]int{1, 1}},
		{handOf(1, 3), [2]int{2, 1}},
		{handOf(0, 80), [2]int{4, 1}},
		{handOf(0, 1, 2), [2]int{1, 1}},
		{handOf(0, 1, 4), [2]int{4, 3}},
		{handOf(0, 40, 80), [2]int{4, 1}},
		{handOf(0, 1, 2, 3), [2]int{4, 3}},
		{allCards()[:9], [2]int{3, 2}},
		{allCards()[:27], [2]int{27, 13}},
	} {
		if mean, ok := impl.MeanDiffer(one.h); !ok || mean != one.want {
			t.Errorf("MeanDiffer(%v) = %v, %v; want %v", one.h, mean, ok, one.want)
		}
	}
	for _, h := range append(oddHands(), nil, handOf(0), handOf(40), handOf(80)) {
		mean, ok := impl.MeanDiffer(h)
		checkNoFraction(t, mean, ok, "MeanDiffer", h)
	}
}
