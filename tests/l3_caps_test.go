package tests

import (
	"slices"
	"testing"

	"loop.example/g01203/impl"
)

func TestCapsHaveNoLines(t *testing.T) {
	for _, h := range someHands() {
		want := len(linesByTraits(h)) == 0
		if is, ok := impl.IsCap(h); !ok || is != want {
			t.Errorf("IsCap(%v) = %v, %v; want %v", h, is, ok, want)
		}
		if is, _ := impl.IsCap(h); is && len(h) > 20 {
			t.Errorf("a cap of %d cards", len(h))
		}
	}
	for _, h := range someCaps() {
		if is, ok := impl.IsCap(h); !ok || !is {
			t.Errorf("IsCap(%v) = %v, %v", h, is, ok)
		}
	}
	for _, one := range []struct {
		h    [][4]int
		want bool
	}{
		{nil, true},
		{[][4]int{}, true},
		{handOf(80), true},
		{handOf(0, 1), true},
		{handOf(0, 1, 2), false},
		{handOf(0, 40, 80), false},
		{handOf(0, 1, 3, 4), true},
		{handOf(5, 78, 79, 80), false},
		{handOf(0, 2, 3, 80), true},
	} {
		if is, ok := impl.IsCap(one.h); !ok || is != one.want {
			t.Errorf("IsCap(%v) = %v, %v; want %v", one.h, is, ok, one.want)
		}
	}
}

// One card makes a cap a hand that is none exactly if the cap blocks it.
func TestOneMoreCardMayMakeALine(t *testing.T) {
	for _, h := range someCaps() {
		blocked := blockedByTraits(h)
		for number, c := range allCards() {
			more, ok := impl.PutCard(h, c)
			if !ok {
				continue
			}
			if is, ok := impl.IsCap(more); !ok || is == slices.Contains(blocked, number) {
				t.Fatalf("IsCap(%v) = %v, %v", more, is, ok)
			}
		}
	}
}

func TestBlockedAndFreeCards(t *testing.T) {
	for _, h := range append(someHands(), someCaps()...) {
		want := blockedByTraits(h)
		blocked, ok := impl.BlockedCards(h)
		if !ok || !slices.Equal(blocked, want) {
			t.Errorf("BlockedCards(%v) = %v, %v; want %v", h, blocked, ok, want)
		}
		free, ok := impl.FreeCards(h)
		if !ok || !slices.IsSorted(free) {
			t.Errorf("FreeCards(%v) = %v, %v", h, free, ok)
		}
		// Each card is in the hand, blocked or free, and only one of these.
		for number, c := range allCards() {
			ways := 0
			for _, is := range []bool{slices.Contains(h, c), slices.Contains(blocked, number), slices.Contains(free, number)} {
				if is {
					ways++
				}
			}
			if ways != 1 {
				t.Fatalf("%d ways of card %d and %v", ways, number, h)
			}
		}
		if len(h)+len(blocked)+len(free) != 81 {
			t.Errorf("%v: %v and %v", h, blocked, free)
		}
	}
}

func TestBlockedCardsOfFewCards(t *testing.T) {
	for _, one := range []struct {
		h    [][4]int
		want []int
	}{
		{nil, nil},
		{handOf(40), nil},
		{handOf(0, 1), []int{2}},
		{handOf(0, 80), []int{40}},
		{handOf(0, 1, 2), nil},
		{handOf(0, 1, 3), []int{2, 6, 8}},
		{handOf(0, 1, 2, 3), []int{6, 7, 8}},
		{allCards()[:9], nil},
		{allCards()[:27], nil},
	} {
		if blocked, ok := impl.BlockedCards(one.h); !ok || !slices.Equal(blocked, one.want) {
			t.Errorf("BlockedCards(%v) = %v, %v; want %v", one.h, blocked, ok, one.want)
		}
		if free, ok := impl.FreeCards(one.h); !ok || len(free) != 81-len(one.h)-len(one.want) {
			t.Errorf("FreeCards(%v) = %v, %v", one.h, free, ok)
		}
	}
}

func TestFullCaps(t *testing.T) {
	for _, h := range append(someHands(), someCaps()...) {
		want := len(linesByTraits(h)) == 0 && len(h)+len(blockedByTraits(h)) == 81
		if full, ok := impl.IsFullCap(h); !ok || full != want {
			t.Errorf("IsFullCap(%v) = %v, %v; want %v", h, full, ok, want)
		}
	}
	for _, h := range [][][4]int{lowCap(), greatCap()} {
		if full, ok := impl.IsFullCap(h); !ok || !full {
			t.Errorf("IsFullCap(%v) = %v, %v", h, full, ok)
		}
		for _, c := range h {
			less, _ := impl.DropCard(h, c)
			if full, ok := impl.IsFullCap(less); !ok || full {
				t.Errorf("IsFullCap(%v) = %v, %v", less, full, ok)
			}
		}
	}
	if full, ok := impl.IsFullCap(nil); !ok || full {
		t.Error("no cards", full, ok)
	}
}

// Where no card is free, but there is a line, a hand is no full cap.
func TestHandsWithLinesAreNoFullCaps(t *testing.T) {
	found := 0
	for _, full := range [][][4]int{lowCap(), greatCap()} {
		for _, c := range allCards() {
			more, ok := impl.PutCard(full, c)
			if !ok {
				continue
			}
			if free, ok := impl.FreeCards(more); !ok || len(free) != 0 {
				t.Errorf("FreeCards(%v) = %v, %v", more, free, ok)
			}
			if is, ok := impl.IsFullCap(more); !ok || is {
				t.Errorf("IsFullCap(%v) = %v, %v", more, is, ok)
			}
			found++
		}
	}
	if found != 81-16+81-20 {
		t.Error(found, "hands with a line")
	}
}

// fillByTraits puts the least free card to a cap, again and again.
func fillByTraits(h [][4]int) [][4]int {
	filled := slices.Clone(h)
	for {
		blocked := blockedByTraits(filled)
		free := -1
		for number, c := range allCards() {
			if !slices.Contains(filled, c) && !slices.Contains(blocked, number) {
				free = number
				break
			}
		}
		if free < 0 {
			return filled
		}
		filled = append(filled, allCards()[free])
		slices.SortFunc(filled, byTraits)
	}
}

func TestFilledCaps(t *testing.T) {
	for _, h := range someCaps() {
		filled, ok := impl.FillCap(h)
		full, fine := impl.IsFullCap(filled)
		if !ok || !fine || !full || len(filled) > 20 {
			t.Errorf("FillCap(%v) = %v, %v", h, filled, ok)
		}
		for _, c := range h {
			if !slices.Contains(filled, c) {
				t.Errorf("FillCap(%v) = %v is without %v", h, filled, c)
			}
		}
		if want := fillByTraits(h); !slices.Equal(filled, want) {
			t.Errorf("FillCap(%v) = %v; want %v", h, filled, want)
		}
	}
	for _, h := range [][][4]int{nil, {}, handOf(0), handOf(0, 1), lowCap()} {
		if filled, ok := impl.FillCap(h); !ok || !slices.Equal(filled, lowCap()) {
			t.Errorf("FillCap(%v) = %v, %v", h, filled, ok)
		}
	}
	if filled, ok := impl.FillCap(greatCap()); !ok || !slices.Equal(filled, greatCap()) {
		t.Error("a full cap", filled, ok)
	}
	// The least free card is less than the card of the cap.
	if filled, ok := impl.FillCap(handOf(80)); !ok || filled[0] != [4]int{} || filled[len(filled)-1] != [4]int{2, 2, 2, 2} {
		t.Error("the last card", filled, ok)
	}
}

func TestFillCapFailsForLines(t *testing.T) {
	for _, h := range someHands() {
		if len(linesByTraits(h)) == 0 {
			continue
		}
		if filled, ok := impl.FillCap(h); ok || len(filled) != 0 {
			t.Errorf("FillCap(%v) = %v, %v", h, filled, ok)
		}
	}
	if filled, ok := impl.FillCap(handOf(0, 1, 2)); ok || len(filled) != 0 {
		t.Error("a line", filled, ok)
	}
}

func TestCapFunctionsFailForOddHands(t *testing.T) {
	for _, h := range oddHands() {
		if is, ok := impl.IsCap(h); ok || is {
			t.Errorf("IsCap(%v) = %v, %v", h, is, ok)
		}
		if blocked, ok := impl.BlockedCards(h); ok || len(blocked) != 0 {
			t.Errorf("BlockedCards(%v) = %v, %v", h, blocked, ok)
		}
		if free, ok := impl.FreeCards(h); ok || len(free) != 0 {
			t.Errorf("FreeCards(%v) = %v, %v", h, free, ok)
		}
		if full, ok := impl.IsFullCap(h); ok || full {
			t.Errorf("IsFullCap(%v) = %v, %v", h, full, ok)
		}
		if filled, ok := impl.FillCap(h); ok || len(filled) != 0 {
			t.Errorf("FillCap(%v) = %v, %v", h, filled, ok)
		}
	}
	// What would be a full cap if it were in order.
	back := greatCap()
	slices.Reverse(back)
	if full, ok := impl.IsFullCap(back); ok || full {
		t.Error("a full cap backwards", full, ok)
	}
}
