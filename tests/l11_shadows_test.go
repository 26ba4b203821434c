package tests

import (
	"slices"
	"testing"

	"loop.example/g01203/impl"
)

func TestMasks(t *testing.T) {
	for mask := 1; mask <= 15; mask++ {
		if !impl.IsMask(mask) {
			t.Errorf("IsMask(%d) = false", mask)
		}
	}
	for _, mask := range oddMasks() {
		if impl.IsMask(mask) {
			t.Errorf("IsMask(%d) = true", mask)
		}
	}
}

func TestShadowsOfACard(t *testing.T) {
	for _, one := range []struct {
		c      [4]int
		mask   int
		shadow [4]int
	}{
		{[4]int{1, 2, 1, 2}, 1, [4]int{1, 0, 0, 0}},
		{[4]int{1, 2, 1, 2}, 2, [4]int{0, 2, 0, 0}},
		{[4]int{1, 2, 1, 2}, 4, [4]int{0, 0, 1, 0}},
		{[4]int{1, 2, 1, 2}, 8, [4]int{0, 0, 0, 2}},
		{[4]int{1, 2, 1, 2}, 5, [4]int{1, 0, 1, 0}},
		{[4]int{1, 2, 1, 2}, 7, [4]int{1, 2, 1, 0}},
		{[4]int{1, 2, 1, 2}, 14, [4]int{0, 2, 1, 2}},
		{[4]int{1, 2, 1, 2}, 15, [4]int{1, 2, 1, 2}},
		{[4]int{0, 2, 2, 2}, 1, [4]int{0, 0, 0, 0}},
		{[4]int{2, 2, 2, 0}, 8, [4]int{0, 0, 0, 0}},
	} {
		if shadow, ok := impl.ShadowOf(one.c, one.mask); !ok || shadow != one.shadow {
			t.Errorf("ShadowOf(%v, %d) = %v, %v; want %v", one.c, one.mask, shadow, ok, one.shadow)
		}
	}
}

func TestShadowsOfAllCards(t *testing.T) {
	for mask := 1; mask <= 15; mask++ {
		for _, c := range allCards() {
			want := shadowByTraits(c, mask)
			shadow, ok := impl.ShadowOf(c, mask)
			if !ok || shadow != want {
				t.Errorf("ShadowOf(%v, %d) = %v, %v; want %v", c, mask, shadow, ok, want)
			}
			if again, ok := impl.ShadowOf(shadow, mask); !ok || again != shadow {
				t.Errorf("ShadowOf(%v, %d) = %v, %v; it is a shadow", shadow, mask, again, ok)
			}
		}
	}
}

func TestShadowHands(t *testing.T) {
	fewer, all := 0, 0
	for _, h := range shadowHands() {
		for mask := 1; mask <= 15; mask++ {
			want := joinedHand(shadowsByTraits(h, mask))
			shadows, ok := impl.ShadowHand(h, mask)
			if !ok || !slices.Equal(shadows, want) || !impl.IsHand(shadows) {
				t.Fatalf("ShadowHand(%v, %d) = %v, %v; want %v", h, mask, shadows, ok, want)
			}
			if len(want) < len(h) {
				fewer++
			} else {
				all++
			}
		}
	}
	if fewer < 1000 || all < 1000 {
		t.Error("only", fewer, "hands with shadows that are the same and", all, "without them")
	}
}

func TestShadowsOfSomeHands(t *testing.T) {
	for _, one := range []struct {
		h       [][4]int
		mask    int
		shadows [][4]int
		lines   int
	}{
		// No card, one card and two.
		{nil, 1, nil, 0},
		{nil, 15, nil, 0},
		{handOf(80), 1, handOf(54), 0},
		{handOf(80), 15, handOf(80), 0},
		{handOf(0, 27), 1, handOf(0, 27), 0},
		{handOf(0, 27), 8, handOf(0), 0},
		// All shadows are the same, also by masks that keep one trait alone.
		{handOf(0, 1, 2), 1, handOf(0), 0},
		{handOf(0, 1, 2), 7, handOf(0), 0},
		{handOf(27, 28, 29), 1, handOf(27), 0},
		// A line whose shadows are a line, or are three times the same card.
		{handOf(0, 1, 2), 8, handOf(0, 1, 2), 1},
		{handOf(0, 40, 80), 1, handOf(0, 27, 54), 1},
		{handOf(0, 40, 80), 2, handOf(0, 9, 18), 1},
		{handOf(0, 40, 80), 4, handOf(0, 3, 6), 1},
		{handOf(0, 40, 80), 8, handOf(0, 1, 2), 1},
		// No line whose shadows are one.
		{handOf(0, 1, 5), 8, handOf(0, 1, 2), 1},
		{handOf(0, 1, 5), 4, handOf(0, 3), 0},
		{handOf(0, 1, 5), 15, handOf(0, 1, 5), 0},
		// Several cards with the same shadow, which is in a line.
		{handOf(0, 1, 2, 40), 8, handOf(0, 1, 2), 2},
		{handOf(0, 1, 2, 3, 4, 5), 8, handOf(0, 1, 2), 8},
		{allCards()[:9], 8, handOf(0, 1, 2), 27},
		{allCards()[:9], 12, allCards()[:9], 12},
		// As many cards as can be, and the most lines.
		{allCards()[:27], 1, handOf(0), 0},
		{allCards()[:27], 8, handOf(0, 1, 2), 729},
		{allCards()[:27], 12, allCards()[:9], 324},
		{allCards()[:27], 14, allCards()[:27], 117},
		{allCards()[54:], 15, allCards()[54:], 117},
	} {
		if shadows, ok := impl.ShadowHand(one.h, one.mask); !ok || !slices.Equal(shadows, one.shadows) {
			t.Errorf("ShadowHand(%v, %d) = %v, %v; want %v", one.h, one.mask, shadows, ok, one.shadows)
		}
		if lines, ok := impl.ShadowLines(one.h, one.mask); !ok || lines != one.lines {
			t.Errorf("ShadowLines(%v, %d) = %d, %v; want %d", one.h, one.mask, lines, ok, one.lines)
		}
	}
}

func TestShadowLines(t *testing.T) {
	others := 0
	for _, h := range shadowHands() {
		for mask := 1; mask <= 15; mask++ {
			shadows := shadowsByTraits(h, mask)
			want := len(linesByTraits(shadows))
			if lines, ok := impl.ShadowLines(h, mask); !ok || lines != want {
				t.Fatalf("ShadowLines(%v, %d) = %d, %v; want %d", h, mask, lines, ok, want)
			}
			if want > len(linesByTraits(joinedHand(shadows))) {
				others++
			}
		}
	}
	if others < 1000 {
		t.Error("only", others, "times more lines than different shadows have")
	}
}

func TestCardsBehindAShadow(t *testing.T) {
	hands := shadowHands()
	for i := 0; i < len(hands); i += 3 {
		h := hands[i]
		for mask := 1; mask <= 15; mask++ {
			counts := map[[4]int]int{}
			for _, shadow := range shadowsByTraits(h, mask) {
				counts[shadow]++
			}
			for _, c := range deckCards {
				if count, ok := impl.CountBehind(h, mask, c); !ok || count != counts[c] {
					t.Fatalf("CountBehind(%v, %d, %v) = %d, %v; want %d", h, mask, c, count, ok, counts[c])
				}
			}
		}
	}
}

func TestCardsBehindSomeShadows(t *testing.T) {
	for _, one := range []struct {
		h      [][4]int
		mask   int
		number int
		count  int
	}{
		{nil, 1, 0, 0},
		{handOf(80), 15, 80, 1},
		{handOf(80), 1, 54, 1},
		// A card that is in the hand, but not a shadow by the mask.
		{handOf(80), 1, 80, 0},
		{handOf(0, 1, 2, 40), 1, 0, 3},
		{handOf(0, 1, 2, 40), 1, 27, 1},
		{handOf(0, 1, 2, 40), 1, 40, 0},
		{handOf(0, 1, 2, 40), 1, 54, 0},
		{handOf(0, 1, 2, 40), 8, 1, 2},
		{allCards()[27:54], 1, 27, 27},
		{allCards()[27:54], 1, 0, 0},
		{allCards()[27:54], 8, 2, 9},
	} {
		if count, ok := impl.CountBehind(one.h, one.mask, allCards()[one.number]); !ok || count != one.count {
			t.Errorf("CountBehind(%v, %d, %v) = %d, %v; want %d", one.h, one.mask, allCards()[one.number], count, ok, one.count)
		}
	}
}

func TestLeastMasks(t *testing.T) {
	found := [16]int{}
	for _, h := range shadowHands() {
		want := leastByTraits(h)
		if mask, ok := impl.LeastMask(h); !ok || mask != want {
			t.Fatalf("LeastMask(%v) = %d, %v; want %d", h, mask, ok, want)
		}
		found[want]++
	}
	for mask := 1; mask <= 15; mask++ {
		if found[mask] == 0 {
			t.Error("no hand with the least mask", mask)
		}
		h := maskHand(mask)
		if least, ok := impl.LeastMask(h); !ok || least != mask {
			t.Errorf("LeastMask(%v) = %d, %v; want %d", h, least, ok, mask)
		}
	}
}

func TestLeastMasksOfSomeHands(t *testing.T) {
	for _, one := range []struct {
		h    [][4]int
		mask int
	}{
		// No card and one card: a mask keeps at least one trait.
		{nil, 1},
		{handOf(0), 1},
		{handOf(80), 1},
		// Two cards are told by the first trait in which they differ.
		{handOf(0, 80), 1},
		{handOf(0, 1), 8},
		{handOf(0, 4), 4},
		{handOf(0, 13), 2},
		{handOf(26, 27), 1},
		{handOf(0, 1, 2), 8},
		{handOf(0, 40, 80), 1},
		// A greater mask with fewer traits is taken, a least one of several with as many.
		{handOf(0, 1, 2, 27), 9},
		{handOf(0, 10, 20), 2},
		{handOf(0, 1, 2, 3), 12},
		{handOf(0, 13, 27, 40), 3},
		{handOf(0, 1, 3, 9, 27), 15},
		{allCards()[:9], 12},
		{allCards()[:10], 14},
		{allCards()[:27], 14},
		{allCards()[54:], 14},
		{lowCap(), 15},
		{greatCap(), 15},
		{sortedWords(), 3},
	} {
		if mask, ok := impl.LeastMask(one.h); !ok || mask != one.mask {
			t.Errorf("LeastMask(%v) = %d, %v; want %d", one.h, mask, ok, one.mask)
		}
	}
}

func TestHiddenCards(t *testing.T) {
	hidden, shown := 0, 0
	hands := shadowHands()
	for i := 0; i < len(hands); i += 3 {
		h := hands[i]
		for _, c := range deckCards {
			// The sum tells the card, so that each one is looked for once.
			sum := sumOf(append(slices.Clone(h), c))
			card, ok := impl.HiddenCard(h, sum)
			if slices.Contains(h, c) {
				shown++
				if ok || card != [4]int{} {
					t.Fatalf("HiddenCard(%v, %v) = %v, %v; %v is in the hand", h, sum, card, ok, c)
				}
				continue
			}
			hidden++
			if !ok || card != c {
				t.Fatalf("HiddenCard(%v, %v) = %v, %v; want %v", h, sum, card, ok, c)
			}
		}
	}
	if hidden < 1000 || shown < 1000 {
		t.Error("only", hidden, "hidden cards and", shown, "in the hand")
	}
}

func TestHiddenCardsOfSomeHands(t *testing.T) {
	for _, one := range []struct {
		h      [][4]int
		sum    [4]int
		hidden [4]int
		ok     bool
	}{
		{nil, [4]int{}, [4]int{}, true},
		{nil, [4]int{2, 1, 0, 2}, [4]int{2, 1, 0, 2}, true},
		{handOf(0), [4]int{}, [4]int{}, false},
		{handOf(0), [4]int{0, 0, 0, 1}, [4]int{0, 0, 0, 1}, true},
		{handOf(40), [4]int{2, 2, 2, 2}, [4]int{}, false},
		{handOf(40), [4]int{}, [4]int{2, 2, 2, 2}, true},
		{handOf(40), [4]int{1, 1, 1, 1}, [4]int{}, true},
		// Two cards and the hidden one are a line if the sum is 0.
		{handOf(0, 1), [4]int{}, [4]int{0, 0, 0, 2}, true},
		{handOf(0, 1), [4]int{0, 0, 0, 1}, [4]int{}, false},
		{handOf(0, 1), [4]int{0, 0, 0, 2}, [4]int{}, false},
		// No card can be put to as many as can be, but one is still told.
		{allCards()[:27], [4]int{2, 1, 0, 2}, [4]int{2, 1, 0, 2}, true},
		{allCards()[:27], [4]int{0, 1, 0, 2}, [4]int{}, false},
	} {
		if hidden, ok := impl.HiddenCard(one.h, one.sum); ok != one.ok || hidden != one.hidden {
			t.Errorf("HiddenCard(%v, %v) = %v, %v; want %v, %v", one.h, one.sum, hidden, ok, one.hidden, one.ok)
		}
	}
}

// The Guarantee: the shadow of a line is a line, or three times the same card.
func TestShadowsOfLines(t *testing.T) {
	lines := linesByTraits(allCards())
	for mask := 1; mask <= 15; mask++ {
		same := 0
		for _, line := range lines {
			h := handOf(line[:]...)
			a, one := impl.ShadowOf(h[0], mask)
			b, two := impl.ShadowOf(h[1], mask)
			c, three := impl.ShadowOf(h[2], mask)
			if !one || !two || !three || isLineByTraits(a, b, c) == areSame(a, b, c) {
				t.Fatalf("the shadows of %v by %d are %v, %v, %v", h, mask, a, b, c)
			}
			want := 1
			if areSame(a, b, c) {
				want = 0
				same++
			}
			if count, ok := impl.ShadowLines(h, mask); !ok || count != want {
				t.Fatalf("ShadowLines(%v, %d) = %d, %v; want %d", h, mask, count, ok, want)
			}
		}
		if (same == 0) != (mask == 15) || same == len(lines) {
			t.Error("by", mask, same, "lines have three times the same shadow")
		}
	}
}

// The Guarantee: the shadow of the sum of a hand is the sum of the shadows of all its cards.
func TestShadowsOfSums(t *testing.T) {
	for _, h := range shadowHands() {
		sum, _ := impl.SumCards(h)
		for mask := 1; mask <= 15; mask++ {
			shadows := [][4]int{}
			for _, c := range h {
				shadow, _ := impl.ShadowOf(c, mask)
				shadows = append(shadows, shadow)
			}
			if shadow, ok := impl.ShadowOf(sum, mask); !ok || shadow != sumOf(shadows) {
				t.Fatalf("%v: the shadow of the sum by %d is %v, %v, the sum of the shadows %v", h, mask, shadow, ok, sumOf(shadows))
			}
		}
	}
}

// checkNoShadows checks that all functions with a hand and a mask fail for them.
func checkNoShadows(t *testing.T, h [][4]int, mask int) {
	t.Helper()
	if shadows, ok := impl.ShadowHand(h, mask); ok || len(shadows) != 0 {
		t.Errorf("ShadowHand(%v, %d) = %v, %v", h, mask, shadows, ok)
	}
	if lines, ok := impl.ShadowLines(h, mask); ok || lines != 0 {
		t.Errorf("ShadowLines(%v, %d) = %d, %v", h, mask, lines, ok)
	}
	for _, c := range [][4]int{{}, {0, 1, 0, 0}, {1, 1, 1, 1}, {0, 0, 0, 2}} {
		if count, ok := impl.CountBehind(h, mask, c); ok || count != 0 {
			t.Errorf("CountBehind(%v, %d, %v) = %d, %v", h, mask, c, count, ok)
		}
	}
}

func TestOddMasks(t *testing.T) {
	for _, mask := range oddMasks() {
		for _, c := range append(allCards(), oddCards()...) {
			if shadow, ok := impl.ShadowOf(c, mask); ok || shadow != [4]int{} {
				t.Errorf("ShadowOf(%v, %d) = %v, %v", c, mask, shadow, ok)
			}
		}
		for _, h := range [][][4]int{nil, handOf(0), handOf(0, 1, 2), handOf(0, 40, 80), greatCap(), allCards()[:27]} {
			checkNoShadows(t, h, mask)
		}
	}
}

func TestShadowFunctionsFail(t *testing.T) {
	for _, h := range oddHands() {
		for mask := range 17 {
			checkNoShadows(t, h, mask)
		}
		if mask, ok := impl.LeastMask(h); ok || mask != 0 {
			t.Errorf("LeastMask(%v) = %d, %v", h, mask, ok)
		}
		for _, sum := range allCards() {
			if hidden, ok := impl.HiddenCard(h, sum); ok || hidden != [4]int{} {
				t.Errorf("HiddenCard(%v, %v) = %v, %v", h, sum, hidden, ok)
			}
		}
	}
}

func TestOddCardsHaveNoShadows(t *testing.T) {
	for _, c := range oddCards() {
		for mask := 1; mask <= 15; mask++ {
			if shadow, ok := impl.ShadowOf(c, mask); ok || shadow != [4]int{} {
				t.Errorf("ShadowOf(%v, %d) = %v, %v", c, mask, shadow, ok)
			}
			for _, h := range [][][4]int{nil, handOf(0), allCards()[:27]} {
				if count, ok := impl.CountBehind(h, mask, c); ok || count != 0 {
					t.Errorf("CountBehind(%v, %d, %v) = %d, %v", h, mask, c, count, ok)
				}
			}
		}
		for _, h := range [][][4]int{nil, handOf(0), handOf(5, 50), allCards()[:27]} {
			if hidden, ok := impl.HiddenCard(h, c); ok || hidden != [4]int{} {
				t.Errorf("HiddenCard(%v, %v) = %v, %v", h, c, hidden, ok)
			}
		}
	}
}
