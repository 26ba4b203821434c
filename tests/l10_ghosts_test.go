package tests

import (
	"slices"
	"testing"

	"loop.example/g01203/impl"
)

// checkGhost checks what IsGhost, GhostsIn and SumGhost tell of a hand of six cards.
func checkGhost(t *testing.T, h [][4]int, want bool) {
	t.Helper()
	all := [][6]int{}
	if want {
		all = append(all, [6]int{0, 1, 2, 3, 4, 5})
	}
	if ghost, ok := impl.IsGhost(h); !ok || ghost != want {
		t.Fatalf("IsGhost(%v) = %v, %v; want %v", h, ghost, ok, want)
	}
	if ghosts, ok := impl.GhostsIn(h); !ok || !slices.Equal(ghosts, all) {
		t.Fatalf("GhostsIn(%v) = %v, %v; want %v", h, ghosts, ok, all)
	}
	zero, ok := impl.SumGhost(h)
	if !ok || zero != (sumOf(h) == [4]int{}) {
		t.Fatalf("SumGhost(%v) = %v, %v; the sum is %v", h, zero, ok, sumOf(h))
	}
	// The promise: the sum of a ghost is 0.
	if want && !zero {
		t.Fatalf("%v are a ghost with the sum %v", h, sumOf(h))
	}
}

func TestSixCards(t *testing.T) {
	for _, one := range []struct {
		h    [][4]int
		want bool
	}{
		{handOf(3, 6, 9, 20, 27, 55), true},
		{handOf(0, 1, 3, 9, 27, 79), false},
		{handOf(0, 1, 3, 4, 9, 31), false},
		// Two lines, and a line with three other cards.
		{handOf(0, 1, 2, 3, 4, 5), true},
		{handOf(0, 1, 2, 39, 40, 41), true},
		{handOf(0, 1, 13, 26, 40, 80), false},
		// In one trait the sum is not 0.
		{handOf(0, 1, 2, 3, 4, 8), false},
		{handOf(0, 1, 2, 3, 5, 13), false},
		{handOf(0, 1, 2, 3, 14, 31), false},
		{handOf(0, 1, 2, 3, 4, 32), false},
		// Three pairs with the same third card are a ghost when they are parted in another way.
		{handOf(1, 2, 3, 6, 40, 80), true},
		{handOf(1, 2, 3, 4, 6, 8), true},
		{handOf(0, 1, 13, 67, 79, 80), true},
	} {
		if isGhostByTraits(one.h) != one.want {
			t.Error(one.h, "are wrong to be", one.want)
		}
		checkGhost(t, one.h, one.want)
	}
}

func TestSixCardsOfHands(t *testing.T) {
	ghosts, others := 0, 0
	for _, h := range [][][4]int{allCards()[:12], squareHand(), greatCap()[:12], handOf(2, 5, 11, 17, 29, 36, 44, 51, 58, 66, 73, 80), scarceHand(18, 9), lowCap()[:11]} {
		for _, places := range placeChoices(len(h), 6) {
			cards := cardsOf(h, places)
			want := isGhostByTraits(cards)
			checkGhost(t, cards, want)
			if want {
				ghosts++
			} else {
				others++
			}
		}
	}
	if ghosts < 50 || others < 50 {
		t.Error("only", ghosts, "ghosts and", others, "others")
	}
}

// Six different cards with the sum 0 are always a ghost: the third cards of each parting have the
// sum 0, so that they are a line or three times the same, and the latter not by all partings.
func TestSixCardsWithTheSum0AreAGhost(t *testing.T) {
	cards, sixes := allCards(), 0
	for i, places := range placeChoices(80, 4) {
		if i%41 != 0 {
			continue
		}
		h := append(handOf(0), cardsOf(cards[1:], places)...)
		// Five cards tell the only one with which their sum is 0.
		last := [4]int{}
		for trait, value := range sumOf(h) {
			last[trait] = (3 - value) % 3
		}
		if slices.Contains(h, last) {
			continue
		}
		h = joinedHand(h, [][4]int{last})
		sixes++
		if !isGhostByTraits(h) {
			t.Fatal(h, "are no ghost")
		}
		checkGhost(t, h, true)
	}
	if sixes < 10000 {
		t.Error("only", sixes, "ghosts")
	}
}

func TestPairsWithOneThirdCardAreAGhost(t *testing.T) {
	for number, c := range allCards() {
		pairs := [][][4]int{}
		for i, a := range allCards() {
			for j := range i {
				if isLineByTraits(a, allCards()[j], c) {
					pairs = append(pairs, handOf(j, i))
				}
			}
		}
		for start := number % 5; start < 38; start += 5 {
			for _, steps := range []int{1, 7, 13} {
				h := joinedHand(pairs[start], pairs[(start+steps)%40], pairs[(start+2*steps)%40])
				same := slices.ContainsFunc(thirdsByTraits(h), func(thirds [][4]int) bool {
					return thirds[0] == c && thirds[1] == c && thirds[2] == c
				})
				if !same {
					t.Fatal(h, "are not three pairs with", c)
				}
				checkGhost(t, h, true)
			}
		}
	}
}

func TestGhosts(t *testing.T) {
	with, without := map[int]int{}, map[int]int{}
	for _, h := range atMost(otherHands(), impl.MaxGhosts) {
		want := ghostsByTraits(h)
		if ghosts, ok := impl.GhostsIn(h); !ok || !slices.Equal(ghosts, want) {
			t.Fatalf("GhostsIn(%v) = %v, %v; want %v", h, ghosts, ok, want)
		}
		if len(want) > 0 {
			with[len(h)]++
		} else {
			without[len(h)]++
		}
	}
	for size := 7; size <= impl.MaxGhosts; size++ {
		if with[size] < 10 || size < 9 && without[size] < 10 {
			t.Error(with[size], "hands of", size, "cards with ghosts,", without[size], "without")
		}
	}
}

func TestGhostsOfSomeHands(t *testing.T) {
	for _, h := range [][][4]int{nil, handOf(4), handOf(0, 1), handOf(0, 1, 2), handOf(0, 1, 3, 4), handOf(0, 1, 2, 3, 4), handOf(1, 2, 3, 6, 40)} {
		if ghosts, ok := impl.GhostsIn(h); !ok || len(ghosts) != 0 {
			t.Errorf("GhostsIn(%v) = %v, %v", h, ghosts, ok)
		}
	}
	for _, one := range []struct {
		h    [][4]int
		want [][6]int
	}{
		{handOf(0, 1, 2, 3, 4, 5, 80), [][6]int{{0, 1, 2, 3, 4, 5}}},
		{handOf(0, 27, 28, 29, 30, 31, 32), [][6]int{{1, 2, 3, 4, 5, 6}}},
		{handOf(0, 1, 2, 3, 4, 5, 27, 28, 29), [][6]int{{0, 1, 2, 3, 4, 5}, {0, 1, 2, 6, 7, 8}, {3, 4, 5, 6, 7, 8}}},
	} {
		if want := ghostsByTraits(one.h); !slices.Equal(one.want, want) {
			t.Errorf("%v has the ghosts %v, not %v", one.h, want, one.want)
		}
		if ghosts, ok := impl.GhostsIn(one.h); !ok || !slices.Equal(ghosts, one.want) {
			t.Errorf("GhostsIn(%v) = %v, %v; want %v", one.h, ghosts, ok, one.want)
		}
	}
	// The sum of a plane is 0, so that what is left of it without a line is a ghost.
	for i, plane := range everyPlane() {
		if i%9 != 0 {
			continue
		}
		want := [][6]int{}
		for _, line := range linesByTraits(plane) {
			left := slices.DeleteFunc([]int{0, 1, 2, 3, 4, 5, 6, 7, 8}, func(place int) bool { return slices.Contains(line[:], place) })
			want = append(want, [6]int(left))
		}
		slices.Reverse(want)
		if ghosts, ok := impl.GhostsIn(plane); !ok || len(ghosts) != 12 || !slices.Equal(ghosts, want) {
			t.Errorf("GhostsIn(%v) = %v, %v; want %v", plane, ghosts, ok, want)
		}
	}
}

func TestGhostsOfGreatHands(t *testing.T) {
	for _, cards := range [][][4]int{allCards(), allCards()[40:], greatCap()[5:], lowCap()} {
		if ghosts, ok := impl.GhostsIn(cards[:10]); !ok || !slices.Equal(ghosts, ghostsByTraits(cards[:10])) || len(ghosts) == 0 {
			t.Errorf("GhostsIn(%v) = %v, %v", cards[:10], ghosts, ok)
		}
		for size := 11; size <= min(28, len(cards)); size++ {
			if ghosts, ok := impl.GhostsIn(cards[:size]); ok || len(ghosts) != 0 {
				t.Errorf("GhostsIn(%v) = %v, %v", cards[:size], ghosts, ok)
			}
		}
	}
	if impl.MaxGhosts != 10 {
		t.Error("MaxGhosts is", impl.MaxGhosts)
	}
}

// checkNoSix checks that what is asked of six cards fails.
func checkNoSix(t *testing.T, h [][4]int) {
	t.Helper()
	if ghost, ok := impl.IsGhost(h); ok || ghost {
		t.Errorf("IsGhost(%v) = %v, %v", h, ghost, ok)
	}
	if zero, ok := impl.SumGhost(h); ok || zero {
		t.Errorf("SumGhost(%v) = %v, %v", h, zero, ok)
	}
}

func TestOtherNumbersOfCardsAreNoGhost(t *testing.T) {
	for _, h := range otherHands() {
		if len(h) != 6 {
			checkNoSix(t, h)
		}
	}
	// Their sum is 0 too.
	for _, h := range [][][4]int{nil, handOf(0), handOf(1, 2), handOf(0, 1, 2), handOf(1, 2, 3, 6), handOf(0, 1, 2, 3, 6), allCards()[:9], allCards()[:27]} {
		if sumOf(h) != [4]int{} {
			t.Error(h, "have the sum", sumOf(h))
		}
		checkNoSix(t, h)
	}
}

func TestGhostFunctionsFail(t *testing.T) {
	lists := oddHands()
	for place := range 6 {
		// What would be a ghost, but for one card, a card that is there twice, or the order.
		for _, odd := range oddCards() {
			h := handOf(0, 1, 2, 3, 4, 5)
			h[place] = odd
			lists = append(lists, h)
		}
		same, swapped := handOf(3, 6, 9, 20, 27, 55), handOf(3, 6, 9, 20, 27, 55)
		same[place] = same[(place+1)%6]
		swapped[place], swapped[(place+1)%6] = swapped[(place+1)%6], swapped[place]
		lists = append(lists, same, swapped)
	}
	// Cards with the sum 0 that are there three times, and two lines behind each other.
	lists = append(lists, handOf(0, 0, 0, 1, 1, 1), handOf(0, 40, 80, 1, 4, 7), handOf(5, 4, 3, 2, 1, 0))
	for _, h := range lists {
		checkNoSix(t, h)
		if ghosts, ok := impl.GhostsIn(h); ok || len(ghosts) != 0 {
			t.Errorf("GhostsIn(%v) = %v, %v", h, ghosts, ok)
		}
	}
}
