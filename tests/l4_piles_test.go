package tests

import (
	"math"
	"slices"
	"testing"

	"loop.example/g01203/impl"
)

// someSeeds returns seeds, among them both ends, and such whose deals end with 0, 6, 9, 12 and
// 15 cards, have up to 18 cards on the table, or lay more cards from 0 to 11 times.
func someSeeds() []int {
	return []int{
		0, 1, 2, 3, 7, 12, 40, 74, 92, 123, 248, 325, 782, 2313, 4842, 15980,
		8191, 8192, 32767, 32768, impl.MaxSeed - 1, impl.MaxSeed,
	}
}

// oddSeeds returns numbers that are no seeds.
func oddSeeds() []int {
	return []int{
		-1, impl.MaxSeed + 1, -2, impl.MaxSeed + 2, -impl.MaxSeed, -impl.MaxSeed - 1, 2*impl.MaxSeed + 2,
		1 << 31, 1 << 32, -1 << 32, math.MaxInt, math.MinInt,
	}
}

// seedByWraparound returns the seed behind a seed; numbers of 16 bits leave just the remainder.
func seedByWraparound(seed int) int { return int(uint16(seed)*25173 + 13849) }

// pileByExchange returns the pile of a seed as the document says it.
func pileByExchange(seed int) [][4]int {
	pile := allCards()
	for i := 80; i >= 1; i-- {
		seed = seedByWraparound(seed)
		place := (seed >> 3) % (i + 1)
		c := pile[i]
		pile[i] = pile[place]
		pile[place] = c
	}
	return pile
}

func TestSeedsBehindSeeds(t *testing.T) {
	found := map[int]bool{}
	for seed := range impl.MaxSeed + 1 {
		next, ok := impl.NextSeed(seed)
		if !ok || next != seedByWraparound(seed) {
			t.Fatalf("NextSeed(%d) = %d, %v; want %d", seed, next, ok, seedByWraparound(seed))
		}
		found[next] = true
	}
	if len(found) != impl.MaxSeed+1 {
		t.Errorf("%d seeds are behind others", len(found))
	}
	for seed, want := range map[int]int{0: 13849, 1: 39022, 65534: 29039, 65535: 54212} {
		if next, ok := impl.NextSeed(seed); !ok || next != want {
			t.Errorf("NextSeed(%d) = %d, %v; want %d", seed, next, ok, want)
		}
	}
	for _, seed := range oddSeeds() {
		if next, ok := impl.NextSeed(seed); ok || next != 0 {
			t.Errorf("NextSeed(%d) = %d, %v", seed, next, ok)
		}
	}
}

func TestPilesOfSeeds(t *testing.T) {
	seeds := someSeeds()
	for seed := 5; seed <= impl.MaxSeed; seed += 97 {
		seeds = append(seeds, seed)
	}
	for _, seed := range seeds {
		pile, ok := impl.PileOf(seed)
		if !ok || !slices.Equal(pile, pileByExchange(seed)) {
			t.Errorf("PileOf(%d) = %v, %v; want %v", seed, pile, ok, pileByExchange(seed))
		}
		slices.SortFunc(pile, func(a, b [4]int) int { return slices.Compare(a[:], b[:]) })
		if !slices.Equal(pile, allCards()) {
			t.Errorf("the pile of %d has not each card once", seed)
		}
	}
	for _, seed := range oddSeeds() {
		if pile, ok := impl.PileOf(seed); ok || len(pile) != 0 {
			t.Errorf("PileOf(%d) = %v, %v", seed, pile, ok)
		}
	}
}

// The numbers of the first and of the last cards of three piles, worked out beside the program.
func TestEndsOfPiles(t *testing.T) {
	for _, one := range []struct {
		seed        int
		first, last []int
	}{
		{0, []int{56, 52, 40, 21, 28, 0, 74, 61, 64, 19, 77, 62}, []int{41, 31, 12, 30}},
		{1, []int{61, 24, 55, 37, 45, 28, 41, 49, 48, 25, 39, 31}, []int{9, 75, 35, 17}},
		{impl.MaxSeed, []int{45, 79, 39, 12, 27, 76, 23, 20, 15, 0, 43, 21}, []int{67, 69, 53}},
	} {
		pile, ok := impl.PileOf(one.seed)
		if !ok || len(pile) != 81 {
			t.Errorf("PileOf(%d) = %v, %v", one.seed, pile, ok)
			continue
		}
		for place, number := range one.first {
			if pile[place] != allCards()[number] {
				t.Errorf("the pile of %d has %v at %d; want the card %d", one.seed, pile[place], place, number)
			}
		}
		for i, number := range one.last {
			if place := 81 - len(one.last) + i; pile[place] != allCards()[number] {
				t.Errorf("the pile of %d has %v at %d; want the card %d", one.seed, pile[place], place, number)
			}
		}
	}
}

func TestPlacesOfCards(t *testing.T) {
	for _, seed := range someSeeds() {
		for want, c := range pileByExchange(seed) {
			if place, ok := impl.CardPlace(seed, c); !ok || place != want {
				t.Errorf("CardPlace(%d, %v) = %d, %v; want %d", seed, c, place, ok, want)
			}
		}
		for _, c := range oddCards() {
			if place, ok := impl.CardPlace(seed, c); ok || place != 0 {
				t.Errorf("CardPlace(%d, %v) = %d, %v", seed, c, place, ok)
			}
		}
	}
	for _, seed := range oddSeeds() {
		for _, c := range append(allCards(), oddCards()...) {
			if place, ok := impl.CardPlace(seed, c); ok || place != 0 {
				t.Errorf("CardPlace(%d, %v) = %d, %v", seed, c, place, ok)
			}
		}
	}
}
