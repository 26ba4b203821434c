package tests

import (
	"testing"

	"loop.example/g01203/impl"
)

func TestBestThirdCards(t *testing.T) {
	for _, h := range chanceHands() {
		best, most := numberByTraits(othersThan(h)[0]), 0
		for _, c := range othersThan(h) {
			if count := len(pairsByTraits(h, c)); count > most {
				best, most = numberByTraits(c), count
			}
		}
		if number, count, ok := impl.BestThird(h); !ok || number != best || count != most {
			t.Errorf("BestThird(%v) = %d, %d, %v; want %d, %d", h, number, count, ok, best, most)
		}
	}
}

func TestBestThirdOfSomeCards(t *testing.T) {
	for _, one := range []struct {
		h          [][4]int
		best, most int
	}{
		// Where no card makes a line, the least one of the rest is told.
		{nil, 0, 0},
		{handOf(0), 1, 0},
		{handOf(1), 0, 0},
		{handOf(80), 0, 0},
		{handOf(0, 1, 2), 3, 0},
		{handOf(78, 79, 80), 0, 0},
		{allCards()[:9], 9, 0},
		{allCards()[:27], 27, 0},
		{allCards()[27:54], 0, 0},
		{handOf(0, 1), 2, 1},
		{handOf(0, 40), 80, 1},
		{handOf(40, 80), 0, 1},
		// The three thirds 2, 5 and 6 make one line each; the least of them is told.
		{handOf(0, 1, 3), 2, 1},
		{handOf(0, 1, 2, 3, 6), 4, 1},
		{handOf(0, 1, 3, 4), 8, 2},
		// The cards 39, 40 and 41 make three lines each.
		{handOf(0, 1, 2, 78, 79, 80), 39, 3},
		// The card 40 makes two lines, the cards 38 and 42 before and behind it one.
		{handOf(0, 1, 79, 80), 40, 2},
		// The only card that the first space lacks makes 13 lines.
		{joinedHand(allCards()[:13], allCards()[14:27]), 13, 13},
		{joinedHand(allCards()[54:80]), 80, 13},
	} {
		if number, count, ok := impl.BestThird(one.h); !ok || number != one.best || count != one.most {
			t.Errorf("BestThird(%v) = %d, %d, %v; want %d, %d", one.h, number, count, ok, one.best, one.most)
		}
	}
}

func TestBestThirdFails(t *testing.T) {
	for _, h := range oddHands() {
		if number, count, ok := impl.BestThird(h); ok || number != 0 || count != 0 {
			t.Errorf("BestThird(%v) = %d, %d, %v", h, number, count, ok)
		}
	}
}

// traitDraws returns how many choices of n cards of a hand have the same trait at a place, for n
// in 1..3.
func traitDraws(h [][4]int, trait int) [4]int {
	counts := [4]int{}
	for i, a := range h {
		counts[1]++
		for j, b := range h[:i] {
			if a[trait] == b[trait] {
				counts[2]++
			}
			for _, c := range h[:j] {
				if a[trait] == b[trait] && b[trait] == c[trait] {
					counts[3]++
				}
			}
		}
	}
	return counts
}

func TestChancesOfTheSameTrait(t *testing.T) {
	for _, h := range chanceHands() {
		for trait := range 4 {
			counts := traitDraws(h, trait)
			for n := 1; n <= 3; n++ {
				chance, ok := impl.ChanceTrait(h, trait, n)
				checkFraction(t, chance, ok, counts[n], choicesOf(len(h), n), "ChanceTrait", h, trait, n)
			}
		}
	}
	for _, one := range []struct {
		h        [][4]int
		trait, n int
		want     [2]int
	}{
		{handOf(40), 0, 1, [2]int{1, 1}},
		{handOf(0, 1), 0, 2, [2]int{1, 1}},
		{handOf(0, 1), 3, 2, [2]int{0, 1}},
		{handOf(0, 1, 2), 3, 3, [2]int{0, 1}},
		{handOf(0, 1, 2), 2, 3, [2]int{1, 1}},
		{handOf(0, 1, 2, 3, 6), 3, 2, [2]int{3, 10}},
		{handOf(0, 1, 2, 3, 6), 3, 3, [2]int{1, 10}},
		{allCards()[:27], 0, 3, [2]int{1, 1}},
		{allCards()[:27], 1, 3, [2]int{28, 325}},
		{allCards()[:27], 2, 2, [2]int{4, 13}},
	} {
		if chance, ok := impl.ChanceTrait(one.h, one.trait, one.n); !ok || chance != one.want {
			t.Errorf("ChanceTrait(%v, %d, %d) = %v, %v; want %v", one.h, one.trait, one.n, chance, ok, one.want)
		}
	}
}

func TestChanceTraitFails(t *testing.T) {
	fails := func(h [][4]int, trait, n int) {
		t.Helper()
		chance, ok := impl.ChanceTrait(h, trait, n)
		checkNoFraction(t, chance, ok, "ChanceTrait", h, trait, n)
	}
	for _, h := range oddHands() {
		for trait := range 4 {
			for n := 1; n <= 3; n++ {
				fails(h, trait, n)
			}
		}
	}
	for _, h := range [][][4]int{nil, handOf(5), handOf(5, 6), handOf(0, 1, 2), handOf(0, 1, 2, 3, 6), allCards()[:27]} {
		for _, odd := range append(greatNumbers(), -4, -3, -2, -1, 4, 5) {
			for n := range 5 {
				fails(h, odd, n)
			}
			for trait := range 5 {
				fails(h, trait, odd)
			}
		}
		for trait := range 4 {
			fails(h, trait, 0)
			for n := len(h) + 1; n <= 4; n++ {
				fails(h, trait, n)
			}
		}
	}
}
