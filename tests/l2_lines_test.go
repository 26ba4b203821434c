package tests

import (
	"testing"

	"loop.example/g01203/impl"
)

func TestThirdCardMakesALineInEachOrder(t *testing.T) {
	for _, a := range allCards() {
		for _, b := range allCards() {
			if a == b {
				continue
			}
			c, ok := impl.ThirdCard(a, b)
			if !ok || !isLineByTraits(a, b, c) {
				t.Fatalf("ThirdCard(%v, %v) = %v, %v", a, b, c, ok)
			}
			for _, order := range [][3][4]int{{a, b, c}, {a, c, b}, {b, a, c}, {b, c, a}, {c, a, b}, {c, b, a}} {
				if third, ok := impl.ThirdCard(order[0], order[1]); !ok || third != order[2] {
					t.Fatalf("ThirdCard(%v, %v) = %v, %v; want %v", order[0], order[1], third, ok, order[2])
				}
				if line, ok := impl.IsLine(order[0], order[1], order[2]); !ok || !line {
					t.Fatalf("IsLine of %v = %v, %v", order, line, ok)
				}
			}
		}
	}
}

func TestThirdCardFailsForTheSameCardTwice(t *testing.T) {
	for _, c := range allCards() {
		if third, ok := impl.ThirdCard(c, c); ok || third != [4]int{} {
			t.Errorf("ThirdCard(%v, %v) = %v, %v", c, c, third, ok)
		}
	}
}

func TestThirdCardFailsForWhatAreNoCards(t *testing.T) {
	for _, c := range oddCards() {
		for _, pair := range [][2][4]int{{c, {1, 1, 1, 1}}, {{1, 1, 1, 1}, c}, {c, c}} {
			if third, ok := impl.ThirdCard(pair[0], pair[1]); ok || third != [4]int{} {
				t.Errorf("ThirdCard(%v, %v) = %v, %v", pair[0], pair[1], third, ok)
			}
		}
	}
}

// Lines are told by the definition, and by the sum 0 of three different cards; their kind is the
// number of traits in which two of them differ.
func TestLinesOfAllCards(t *testing.T) {
	cards := allCards()
	for i, a := range cards {
		for j, b := range cards {
			for k, c := range cards {
				want := isLineByTraits(a, b, c)
				line, ok := impl.IsLine(a, b, c)
				if !ok || line != want {
					t.Fatalf("IsLine(%v, %v, %v) = %v, %v", a, b, c, line, ok)
				}
				if i != j && j != k && i != k && want != isSumZero(a, b, c) {
					t.Fatalf("the sum of %v, %v, %v", a, b, c)
				}
				kind, ok := impl.LineKind(a, b, c)
				if ok != want {
					t.Fatalf("LineKind(%v, %v, %v) = %d, %v", a, b, c, kind, ok)
				}
				differ, _ := impl.DifferIn(a, b)
				if want && (kind != differ || kind < 1 || kind > 4) || !want && kind != 0 {
					t.Fatalf("LineKind(%v, %v, %v) = %d", a, b, c, kind)
				}
			}
		}
	}
}

func isSumZero(a, b, c [4]int) bool {
	for trait := range 4 {
		if (a[trait]+b[trait]+c[trait])%3 != 0 {
			return false
		}
	}
	return true
}

// SumCards is told of hands only, so each three cards are taken in ascending order.
func TestSumOfLinesIsZero(t *testing.T) {
	cards := allCards()
	for i := range 81 {
		for j := i + 1; j < 81; j++ {
			for k := j + 1; k < 81; k++ {
				h := [][4]int{cards[i], cards[j], cards[k]}
				sum, ok := impl.SumCards(h)
				if !ok || (sum == [4]int{}) != isLineByTraits(h[0], h[1], h[2]) {
					t.Fatalf("SumCards(%v) = %v, %v", h, sum, ok)
				}
			}
		}
	}
}

func TestLinesOfSomeKinds(t *testing.T) {
	for _, line := range []struct {
		a, b, c [4]int
		kind    int
	}{
		{[4]int{}, [4]int{0, 0, 0, 1}, [4]int{0, 0, 0, 2}, 1},
		{[4]int{1, 2, 0, 1}, [4]int{2, 2, 0, 1}, [4]int{0, 2, 0, 1}, 1},
		{[4]int{0, 0, 1, 2}, [4]int{0, 0, 2, 1}, [4]int{}, 2},
		{[4]int{2, 0, 1, 2}, [4]int{2, 1, 2, 0}, [4]int{2, 2, 0, 1}, 3},
		{[4]int{}, [4]int{1, 1, 1, 1}, [4]int{2, 2, 2, 2}, 4},
		{[4]int{0, 1, 2, 0}, [4]int{1, 2, 0, 1}, [4]int{2, 0, 1, 2}, 4},
	} {
		if kind, ok := impl.LineKind(line.a, line.b, line.c); !ok || kind != line.kind {
			t.Errorf("LineKind(%v, %v, %v) = %d, %v; want %d", line.a, line.b, line.c, kind, ok, line.kind)
		}
	}
}

func TestNoLines(t *testing.T) {
	zero, one, two := [4]int{}, [4]int{0, 0, 0, 1}, [4]int{0, 0, 0, 2}
	for _, cards := range [][3][4]int{
		{zero, zero, zero}, {two, two, two}, {zero, zero, one}, {zero, one, zero}, {one, zero, zero}, {zero, one, one},
		{zero, one, {0, 0, 1, 2}}, {zero, one, {1, 0, 0, 2}}, {{0, 1, 1, 1}, {0, 1, 1, 1}, {0, 1, 1, 2}},
	} {
		if line, ok := impl.IsLine(cards[0], cards[1], cards[2]); line || !ok {
			t.Errorf("IsLine of %v = %v, %v", cards, line, ok)
		}
		if kind, ok := impl.LineKind(cards[0], cards[1], cards[2]); ok || kind != 0 {
			t.Errorf("LineKind of %v = %v, %v", cards, kind, ok)
		}
	}
}

func TestLinesFailForWhatAreNoCards(t *testing.T) {
	zero, one := [4]int{}, [4]int{1, 1, 1, 1}
	for _, c := range oddCards() {
		for _, cards := range [][3][4]int{{c, zero, one}, {zero, c, one}, {zero, one, c}, {c, c, zero}, {c, c, c}} {
			if line, ok := impl.IsLine(cards[0], cards[1], cards[2]); line || ok {
				t.Errorf("IsLine of %v = %v, %v", cards, line, ok)
			}
			if kind, ok := impl.LineKind(cards[0], cards[1], cards[2]); ok || kind != 0 {
				t.Errorf("LineKind of %v = %v, %v", cards, kind, ok)
			}
		}
	}
	// Values that would do for a line if only their differences were looked at.
	if line, ok := impl.IsLine([4]int{1}, [4]int{2}, [4]int{3}); line || ok {
		t.Error("values beyond the bounds", line, ok)
	}
}

func TestThirdOfAThirdCardIsTheOtherOne(t *testing.T) {
	for _, a := range allCards() {
		for _, b := range allCards() {
			third, ok := impl.ThirdCard(a, b)
			if ok != (a != b) {
				t.Fatalf("ThirdCard(%v, %v)", a, b)
			}
			if back, ok := impl.ThirdCard(a, third); a != b && (!ok || back != b) {
				t.Fatalf("ThirdCard(%v, %v) = %v, %v; want %v", a, third, back, ok, b)
			}
		}
	}
}

func TestEachCardIsOn40Lines(t *testing.T) {
	cards := allCards()
	for _, c := range cards {
		count := 0
		for i := range cards {
			for j := range i {
				if line, _ := impl.IsLine(c, cards[i], cards[j]); line {
					count++
				}
			}
		}
		if count != 40 {
			t.Errorf("%v is on %d lines", c, count)
		}
	}
}
