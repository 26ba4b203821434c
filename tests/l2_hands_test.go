package tests

import (
	"math"
	"slices"
	"testing"

	"loop.example/g01203/impl"
)

func TestHandsAreAscendingLists(t *testing.T) {
	if !impl.IsHand(nil) {
		t.Error("nil is no hand")
	}
	for _, h := range someHands() {
		if !impl.IsHand(h) {
			t.Errorf("%v is no hand", h)
		}
	}
	for _, h := range oddHands() {
		if impl.IsHand(h) {
			t.Errorf("%v is a hand", h)
		}
	}
}

// Of all lists of two cards, just those in ascending order are hands.
func TestHandsOfTwoCards(t *testing.T) {
	for i, a := range allCards() {
		for j, b := range allCards() {
			if got := impl.IsHand([][4]int{a, b}); got != (i < j) {
				t.Fatalf("IsHand of %v and %v is %v", a, b, got)
			}
		}
	}
}

// linesByTraits returns the lines of a hand as the definition says, three places after three.
func linesByTraits(h [][4]int) [][3]int {
	lines := [][3]int{}
	for i := range h {
		for j := i + 1; j < len(h); j++ {
			for k := j + 1; k < len(h); k++ {
				if isLineByTraits(h[i], h[j], h[k]) {
					lines = append(lines, [3]int{i, j, k})
				}
			}
		}
	}
	return lines
}

func TestLinesInHands(t *testing.T) {
	for _, h := range someHands() {
		lines, ok := impl.LinesIn(h)
		if !ok || !slices.Equal(lines, linesByTraits(h)) {
			t.Errorf("LinesIn(%v) = %v, %v", h, lines, ok)
		}
		// Each pair of cards is in one line at most, and a line has three pairs.
		if n := len(h); len(lines)*6 > n*(n-1) {
			t.Errorf("%d lines of %d cards", len(lines), n)
		}
	}
	lines, ok := impl.LinesIn(handOf(0, 1, 2, 3, 6, 40, 80))
	if !ok || !slices.Equal(lines, [][3]int{{0, 1, 2}, {0, 3, 4}, {0, 5, 6}}) {
		t.Error("seven cards", lines, ok)
	}
	lines, ok = impl.LinesIn(allCards()[27:54])
	if !ok || len(lines) != 27*26/6 {
		t.Error("27 cards with the same trait", len(lines), ok)
	}
	for _, h := range [][][4]int{nil, {}, handOf(7), handOf(7, 9), handOf(0, 1, 3)} {
		if lines, ok := impl.LinesIn(h); !ok || len(lines) != 0 {
			t.Errorf("LinesIn(%v) = %v, %v", h, lines, ok)
		}
	}
	for _, h := range oddHands() {
		if lines, ok := impl.LinesIn(h); ok || len(lines) != 0 {
			t.Errorf("LinesIn(%v) = %v, %v", h, lines, ok)
		}
	}
}

func TestLinesThroughCards(t *testing.T) {
	for _, h := range someHands() {
		for _, c := range allCards() {
			want := 0
			for i := range h {
				for j := range i {
					if isLineByTraits(c, h[i], h[j]) {
						want++
					}
				}
			}
			if n, ok := impl.LinesThrough(h, c); !ok || n != want {
				t.Fatalf("LinesThrough(%v, %v) = %d, %v; want %d", h, c, n, ok, want)
			}
		}
	}
	for _, one := range []struct {
		h    [][4]int
		c    [4]int
		want int
	}{
		{nil, [4]int{}, 0},
		{handOf(0), [4]int{}, 0},
		{handOf(1, 2), [4]int{}, 1},
		{handOf(0, 1, 2), [4]int{}, 1},
		{handOf(0, 1, 2), [4]int{0, 0, 0, 2}, 1},
		{allCards()[:27], [4]int{}, 13},
		{allCards()[:27], [4]int{1, 0, 0, 0}, 0},
	} {
		if n, ok := impl.LinesThrough(one.h, one.c); !ok || n != one.want {
			t.Errorf("LinesThrough(%v, %v) = %d, %v; want %d", one.h, one.c, n, ok, one.want)
		}
	}
}

func TestLinesThroughFails(t *testing.T) {
	for _, h := range oddHands() {
		if n, ok := impl.LinesThrough(h, [4]int{}); ok || n != 0 {
			t.Errorf("LinesThrough(%v) = %d, %v", h, n, ok)
		}
	}
	for _, c := range oddCards() {
		for _, h := range [][][4]int{{}, allCards()[:27]} {
			if n, ok := impl.LinesThrough(h, c); ok || n != 0 {
				t.Errorf("LinesThrough(%v, %v) = %d, %v", h, c, n, ok)
			}
		}
	}
}

func TestSumsOfHands(t *testing.T) {
	for _, h := range someHands() {
		want := [4]int{}
		for _, c := range h {
			for trait := range c {
				want[trait] += c[trait]
			}
		}
		for trait := range want {
			want[trait] %= 3
		}
		if sum, ok := impl.SumCards(h); !ok || sum != want {
			t.Errorf("SumCards(%v) = %v, %v; want %v", h, sum, ok, want)
		}
	}
	if sum, ok := impl.SumCards(nil); !ok || sum != [4]int{} {
		t.Error("no cards", sum, ok)
	}
	for _, h := range oddHands() {
		if sum, ok := impl.SumCards(h); ok || sum != [4]int{} {
			t.Errorf("SumCards(%v) = %v, %v", h, sum, ok)
		}
	}
}

func byTraits(a, b [4]int) int { return slices.Compare(a[:], b[:]) }

func TestPutAndDropForEachCard(t *testing.T) {
	for _, h := range someHands() {
		for _, c := range allCards() {
			there := slices.Contains(h, c)
			with, without := slices.Clone(h), [][4]int{}
			for _, d := range h {
				if d != c {
					without = append(without, d)
				}
			}
			with = append(with, c)
			slices.SortFunc(with, byTraits)
			if there || len(h) == impl.MaxHand {
				with = nil
			}
			if !there {
				without = nil
			}
			put, ok := impl.PutCard(h, c)
			if ok != (with != nil) || !slices.Equal(put, with) {
				t.Fatalf("PutCard(%v, %v) = %v, %v; want %v", h, c, put, ok, with)
			}
			if back, fine := impl.DropCard(put, c); ok && (!fine || !slices.Equal(back, h)) {
				t.Fatalf("DropCard(%v, %v) = %v, %v; want %v", put, c, back, fine, h)
			}
			less, ok := impl.DropCard(h, c)
			if ok != there || !slices.Equal(less, without) {
				t.Fatalf("DropCard(%v, %v) = %v, %v; want %v", h, c, less, ok, without)
			}
		}
	}
}

func TestPutCardKeepsTheOrder(t *testing.T) {
	for _, one := range []struct {
		h    [][4]int
		c    [4]int
		want [][4]int
	}{
		{nil, [4]int{1, 1, 1, 1}, handOf(40)},
		{handOf(0), [4]int{1, 1, 1, 1}, handOf(0, 40)},
		{handOf(41), [4]int{1, 1, 1, 1}, handOf(40, 41)},
		{handOf(0, 80), [4]int{1, 1, 1, 1}, handOf(0, 40, 80)},
		{allCards()[1:27], [4]int{}, allCards()[:27]},
		{allCards()[:26], [4]int{0, 2, 2, 2}, allCards()[:27]},
	} {
		if put, ok := impl.PutCard(one.h, one.c); !ok || !slices.Equal(put, one.want) {
			t.Errorf("PutCard(%v, %v) = %v, %v; want %v", one.h, one.c, put, ok, one.want)
		}
	}
	if put, ok := impl.PutCard(allCards()[:27], [4]int{1, 0, 0, 0}); ok || len(put) != 0 {
		t.Error("one card more than MaxHand", put, ok)
	}
}

func TestDropCardOfTheOnlyOne(t *testing.T) {
	if less, ok := impl.DropCard(handOf(40), [4]int{1, 1, 1, 1}); !ok || len(less) != 0 {
		t.Error("its only card", less, ok)
	}
	if less, ok := impl.DropCard(nil, [4]int{}); ok || len(less) != 0 {
		t.Error("no cards", less, ok)
	}
}

func TestPutAndDropFail(t *testing.T) {
	for _, h := range oddHands() {
		// A card that the list has, and one that most have not.
		for _, c := range [][4]int{h[0], {1, 2, 0, 1}} {
			if put, ok := impl.PutCard(h, c); ok || len(put) != 0 {
				t.Errorf("PutCard(%v, %v) = %v, %v", h, c, put, ok)
			}
			if less, ok := impl.DropCard(h, c); ok || len(less) != 0 {
				t.Errorf("DropCard(%v, %v) = %v, %v", h, c, less, ok)
			}
		}
	}
	for _, c := range oddCards() {
		for _, h := range [][][4]int{{}, handOf(0, 40, 80), allCards()[:27]} {
			if put, ok := impl.PutCard(h, c); ok || len(put) != 0 {
				t.Errorf("PutCard(%v, %v) = %v, %v", h, c, put, ok)
			}
			if less, ok := impl.DropCard(h, c); ok || len(less) != 0 {
				t.Errorf("DropCard(%v, %v) = %v, %v", h, c, less, ok)
			}
		}
	}
}

func TestPlacesWithATrait(t *testing.T) {
	for _, h := range someHands() {
		for trait := range 4 {
			for value := range 3 {
				want := []int{}
				for place := range h {
					if h[place][trait] == value {
						want = append(want, place)
					}
				}
				if places, ok := impl.WithTrait(h, trait, value); !ok || !slices.Equal(places, want) {
					t.Fatalf("WithTrait(%v, %d, %d) = %v, %v; want %v", h, trait, value, places, ok, want)
				}
			}
		}
	}
}

func TestPlacesWithATraitFail(t *testing.T) {
	h := handOf(0, 1, 2, 40)
	for _, n := range []int{-1, 4, 5, 256, 1 << 32, math.MaxInt, math.MinInt} {
		if places, ok := impl.WithTrait(h, n, 0); ok || len(places) != 0 {
			t.Errorf("WithTrait of trait %d = %v, %v", n, places, ok)
		}
		if places, ok := impl.WithTrait(h, 0, n); ok || len(places) != 0 {
			t.Errorf("WithTrait of value %d = %v, %v", n, places, ok)
		}
	}
	if places, ok := impl.WithTrait(h, 0, 3); ok || len(places) != 0 {
		t.Error("value 3", places, ok)
	}
	if places, ok := impl.WithTrait(nil, 4, 0); ok || len(places) != 0 {
		t.Error("trait 4 of no cards", places, ok)
	}
	for _, h := range oddHands() {
		if places, ok := impl.WithTrait(h, 0, 0); ok || len(places) != 0 {
			t.Errorf("WithTrait(%v) = %v, %v", h, places, ok)
		}
	}
}

func TestSortedCards(t *testing.T) {
	for _, h := range someHands() {
		back := slices.Clone(h)
		slices.Reverse(back)
		twice := append(slices.Clone(back), h...)
		for _, list := range [][][4]int{h, back, twice} {
			if sorted, ok := impl.SortCards(list); !ok || !slices.Equal(sorted, h) {
				t.Fatalf("SortCards(%v) = %v, %v; want %v", list, sorted, ok, h)
			}
		}
	}
	if sorted, ok := impl.SortCards(nil); !ok || len(sorted) != 0 {
		t.Error("no cards", sorted, ok)
	}
	many := slices.Repeat([][4]int{{2, 1, 0, 1}, {}, {2, 1, 0, 0}}, 5000)
	if sorted, ok := impl.SortCards(many); !ok || !slices.Equal(sorted, handOf(0, 63, 64)) {
		t.Error("three cards, many times", sorted, ok)
	}
}

func TestSortCardsFails(t *testing.T) {
	for _, list := range [][][4]int{allCards()[:28], allCards(), append(allCards()[:28], allCards()[:28]...)} {
		if sorted, ok := impl.SortCards(list); ok || len(sorted) != 0 {
			t.Errorf("SortCards of %d cards = %v, %v", len(list), sorted, ok)
		}
	}
	for _, c := range oddCards() {
		for _, list := range [][][4]int{{c}, {c, {}}, {{}, c}, append(allCards()[:27], c)} {
			if sorted, ok := impl.SortCards(list); ok || len(sorted) != 0 {
				t.Errorf("SortCards(%v) = %v, %v", list, sorted, ok)
			}
		}
	}
}
