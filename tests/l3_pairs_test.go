package tests

import (
	"slices"
	"testing"

	"loop.example/g01203/impl"
)

// pairedHands returns hands that consist of pairs, each of which makes a line with a card that
// is not in the hand.
func pairedHands() [][][4]int {
	hands := [][][4]int{greatCap()}
	for _, anchor := range []int{0, 13, 40, 80} {
		h := [][4]int{}
		for _, c := range allCards() {
			third, ok := impl.ThirdCard(allCards()[anchor], c)
			if ok && byTraits(c, third) < 0 && len(h) < 26 {
				h = append(h, c, third)
				hands = append(hands, slices.SortedFunc(slices.Values(h), byTraits))
			}
		}
	}
	return hands
}

func TestAnchors(t *testing.T) {
	for _, h := range append(append(someHands()[1:], someCaps()...), pairedHands()...) {
		if len(h) == 0 {
			continue
		}
		want := []int{}
		for number, c := range allCards() {
			paired := 0
			for _, d := range h {
				if third, ok := impl.ThirdCard(c, d); ok && slices.Contains(h, third) {
					paired++
				}
			}
			if !slices.Contains(h, c) && paired == len(h) {
				want = append(want, number)
			}
		}
		if anchors, ok := impl.AnchorsOf(h); !ok || !slices.Equal(anchors, want) {
			t.Errorf("AnchorsOf(%v) = %v, %v; want %v", h, anchors, ok, want)
		}
	}
	for _, one := range []struct {
		h    [][4]int
		want []int
	}{
		{handOf(40), nil},
		{handOf(0, 1), []int{2}},
		{handOf(0, 1, 2), nil},
		{handOf(0, 1, 3), nil},
		{handOf(0, 1, 3, 4), []int{8}},
		{handOf(0, 1, 3, 6), nil},
		{handOf(1, 2, 3, 6), []int{0}},
		// A card of the hand is no anchor, even if all others are pairs with it.
		{handOf(0, 1, 2, 3, 6), nil},
		{handOf(0, 1, 2, 3, 4, 5), []int{6, 7, 8}},
		{greatCap(), []int{0}},
	} {
		if anchors, ok := impl.AnchorsOf(one.h); !ok || !slices.Equal(anchors, one.want) {
			t.Errorf("AnchorsOf(%v) = %v, %v; want %v", one.h, anchors, ok, one.want)
		}
	}
}

func TestAnchorsFail(t *testing.T) {
	for _, h := range append(oddHands(), nil, [][4]int{}) {
		if anchors, ok := impl.AnchorsOf(h); ok || len(anchors) != 0 {
			t.Errorf("AnchorsOf(%v) = %v, %v", h, anchors, ok)
		}
	}
}

func TestJoinedCaps(t *testing.T) {
	caps := someCaps()
	joins := 0
	for i, g := range caps {
		for j := i % 3; j < len(caps); j += 3 {
			h := caps[j]
			want := slices.Clone(g)
			for _, c := range h {
				if !slices.Contains(g, c) {
					want = append(want, c)
				}
			}
			slices.SortFunc(want, byTraits)
			if len(want) > 20 || len(linesByTraits(want)) > 0 {
				want = nil
			}
			joined, ok := impl.JoinCaps(g, h)
			if ok != (want != nil) || !slices.Equal(joined, want) {
				t.Fatalf("JoinCaps(%v, %v) = %v, %v; want %v", g, h, joined, ok, want)
			}
			if ok && len(want) > len(g) && len(want) > len(h) {
				joins++
			}
		}
	}
	if joins < 100 {
		t.Error("only", joins, "joins of two caps to a greater one")
	}
}

func TestJoinedCapsOfFewCards(t *testing.T) {
	for _, one := range []struct {
		g, h [][4]int
		want [][4]int
	}{
		{nil, nil, [][4]int{}},
		{nil, handOf(0, 1), handOf(0, 1)},
		{handOf(0, 1), nil, handOf(0, 1)},
		{handOf(3), handOf(1), handOf(1, 3)},
		{handOf(0, 4), handOf(1, 3), handOf(0, 1, 3, 4)},
		{handOf(0, 1, 4), handOf(1, 3, 4), handOf(0, 1, 3, 4)},
		{greatCap(), greatCap(), greatCap()},
		{greatCap()[:15], greatCap()[5:], greatCap()},
		// Two caps that make no cap together.
		{handOf(0, 1), handOf(2), nil},
		{handOf(0), handOf(40, 80), nil},
		{handOf(0, 1), handOf(0, 2), nil},
		{greatCap(), handOf(0), nil},
		// One that is none, on either side.
		{handOf(0, 1, 2), nil, nil},
		{nil, handOf(0, 1, 2), nil},
		{handOf(0, 1, 2), handOf(0, 1, 2), nil},
		{handOf(0, 1, 2), handOf(5), nil},
	} {
		joined, ok := impl.JoinCaps(one.g, one.h)
		if ok != (one.want != nil) || !slices.Equal(joined, one.want) {
			t.Errorf("JoinCaps(%v, %v) = %v, %v; want %v", one.g, one.h, joined, ok, one.want)
		}
	}
	// Together they are more than MaxHand cards.
	if joined, ok := impl.JoinCaps(greatCap(), lowCap()); ok || len(joined) != 0 {
		t.Error("two full caps", joined, ok)
	}
}

func TestJoinCapsFailsForOddHands(t *testing.T) {
	for _, odd := range oddHands() {
		for _, h := range [][][4]int{nil, handOf(0), handOf(2, 3), odd} {
			if joined, ok := impl.JoinCaps(odd, h); ok || len(joined) != 0 {
				t.Errorf("JoinCaps(%v, %v) = %v, %v", odd, h, joined, ok)
			}
			if joined, ok := impl.JoinCaps(h, odd); ok || len(joined) != 0 {
				t.Errorf("JoinCaps(%v, %v) = %v, %v", h, odd, joined, ok)
			}
		}
	}
}

// A card is blocked exactly if it has lines, and those are with pairs of the hand.
func TestLinesOfCardsOutside(t *testing.T) {
	for _, h := range append(someHands(), someCaps()...) {
		blocked, _ := impl.BlockedCards(h)
		for number, c := range allCards() {
			want := pairsByTraits(h, c)
			there := slices.Contains(h, c)
			if there {
				want = nil
			}
			lines, ok := impl.CapLines(h, c)
			if ok == there || !slices.Equal(lines, want) {
				t.Fatalf("CapLines(%v, %v) = %v, %v; want %v", h, c, lines, ok, want)
			}
			if slices.Contains(blocked, number) != (len(lines) > 0) {
				t.Fatalf("BlockedCards(%v) = %v, but CapLines of %v %v", h, blocked, c, lines)
			}
		}
	}
	for _, one := range []struct {
		h    [][4]int
		c    [4]int
		want [][2]int
	}{
		{nil, [4]int{}, nil},
		{handOf(1), [4]int{}, nil},
		{handOf(1, 2), [4]int{}, [][2]int{{0, 1}}},
		{handOf(0, 1), [4]int{0, 0, 0, 2}, [][2]int{{0, 1}}},
		{handOf(0, 2), [4]int{0, 0, 0, 1}, [][2]int{{0, 1}}},
		{handOf(1, 2, 3, 6, 40, 80), [4]int{}, [][2]int{{0, 1}, {2, 3}, {4, 5}}},
		{handOf(1, 2, 3, 6, 40, 79), [4]int{}, [][2]int{{0, 1}, {2, 3}}},
		{handOf(0, 1, 3, 4), [4]int{0, 0, 2, 2}, [][2]int{{0, 3}, {1, 2}}},
		{allCards()[1:9], [4]int{}, [][2]int{{0, 1}, {2, 5}, {3, 7}, {4, 6}}},
	} {
		if lines, ok := impl.CapLines(one.h, one.c); !ok || !slices.Equal(lines, one.want) {
			t.Errorf("CapLines(%v, %v) = %v, %v; want %v", one.h, one.c, lines, ok, one.want)
		}
	}
}

func TestLinesOfCardsInsideOrOdd(t *testing.T) {
	for _, h := range [][][4]int{handOf(0), handOf(0, 1, 2), handOf(0, 1, 3, 4), allCards()[:27]} {
		for _, c := range h {
			if lines, ok := impl.CapLines(h, c); ok || len(lines) != 0 {
				t.Errorf("CapLines(%v, %v) = %v, %v", h, c, lines, ok)
			}
		}
	}
	for _, c := range oddCards() {
		for _, h := range [][][4]int{nil, handOf(0, 1), allCards()[:27]} {
			if lines, ok := impl.CapLines(h, c); ok || len(lines) != 0 {
				t.Errorf("CapLines(%v, %v) = %v, %v", h, c, lines, ok)
			}
		}
	}
	for _, h := range oddHands() {
		for _, c := range [][4]int{{}, {0, 0, 0, 2}, {1, 2, 0, 1}} {
			if lines, ok := impl.CapLines(h, c); ok || len(lines) != 0 {
				t.Errorf("CapLines(%v, %v) = %v, %v", h, c, lines, ok)
			}
		}
	}
}
