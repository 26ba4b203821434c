package tests

import (
	"math"
	"testing"

	"loop.example/g01203/impl"
)

func TestCardsAreThoseOfValidTraits(t *testing.T) {
	for _, c := range allCards() {
		if !impl.IsCard(c) {
			t.Errorf("%v is no card", c)
		}
	}
	for _, c := range oddCards() {
		if impl.IsCard(c) {
			t.Errorf("%v is a card", c)
		}
	}
}

func TestNumbersOfCardsAreTheirPlaces(t *testing.T) {
	for number, c := range allCards() {
		if n, ok := impl.CardNumber(c); !ok || n != number {
			t.Errorf("CardNumber(%v) = %d, %v; want %d", c, n, ok, number)
		}
		if d, ok := impl.CardAt(number); !ok || d != c {
			t.Errorf("CardAt(%d) = %v, %v; want %v", number, d, ok, c)
		}
	}
	for _, c := range oddCards() {
		if n, ok := impl.CardNumber(c); ok || n != 0 {
			t.Errorf("CardNumber(%v) = %d, %v", c, n, ok)
		}
	}
	for _, number := range []int{-1, -2, 81, 82, 100, 1 << 32, math.MaxInt, math.MinInt} {
		if c, ok := impl.CardAt(number); ok || c != [4]int{} {
			t.Errorf("CardAt(%d) = %v, %v", number, c, ok)
		}
	}
}

func TestDifferInCountsTraits(t *testing.T) {
	for _, a := range allCards() {
		for _, b := range allCards() {
			want := 0
			for trait := range 4 {
				if a[trait] != b[trait] {
					want++
				}
			}
			if n, ok := impl.DifferIn(a, b); !ok || n != want {
				t.Fatalf("DifferIn(%v, %v) = %d, %v; want %d", a, b, n, ok, want)
			}
		}
	}
	for _, c := range oddCards() {
		for _, pair := range [][2][4]int{{c, {}}, {{}, c}, {c, c}} {
			if n, ok := impl.DifferIn(pair[0], pair[1]); ok || n != 0 {
				t.Errorf("DifferIn(%v, %v) = %d, %v", pair[0], pair[1], n, ok)
			}
		}
	}
}
