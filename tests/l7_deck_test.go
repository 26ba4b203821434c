package tests

import (
	"slices"
	"testing"

	"loop.example/g01203/impl"
)

func TestDeckPartings(t *testing.T) {
	for _, c := range allCards()[1:] {
		if lines, ok := impl.DeckParting(c); !ok || !slices.Equal(lines, stepLines(c)) {
			t.Errorf("DeckParting(%v) = %v, %v; want %v", c, lines, ok, stepLines(c))
		}
	}
}

// The lines of DeckParting are lines, and each card is in just one.
func TestDeckPartingsPartAllCards(t *testing.T) {
	cards := allCards()
	for _, c := range cards[1:] {
		lines, ok := impl.DeckParting(c)
		if !ok || len(lines) != 27 || !slices.IsSortedFunc(lines, byPlaces) {
			t.Errorf("DeckParting(%v) = %v, %v", c, lines, ok)
		}
		found := [81]int{}
		for _, line := range lines {
			if line[0] >= line[1] || line[1] >= line[2] || !isLineByTraits(cards[line[0]], cards[line[1]], cards[line[2]]) {
				t.Errorf("DeckParting(%v) has %v", c, line)
			}
			for _, number := range line {
				found[number]++
			}
		}
		for number, count := range found {
			if count != 1 {
				t.Errorf("DeckParting(%v) has %v %d times", c, cards[number], count)
			}
		}
	}
}

// A card and the one that is it twice lead through the same lines, in other directions.
func TestDeckPartingsOfOppositeCards(t *testing.T) {
	for _, c := range allCards()[1:] {
		back := [4]int{}
		for trait := range 4 {
			back[trait] = 2 * c[trait] % 3
		}
		lines, _ := impl.DeckParting(c)
		others, ok := impl.DeckParting(back)
		if !ok || !slices.Equal(lines, others) {
			t.Errorf("DeckParting(%v) = %v, but of %v %v", c, lines, back, others)
		}
	}
}

func TestKnownDeckPartings(t *testing.T) {
	for _, one := range []struct {
		c                   [4]int
		first, second, last [3]int
	}{
		{[4]int{0, 0, 0, 1}, [3]int{0, 1, 2}, [3]int{3, 4, 5}, [3]int{78, 79, 80}},
		{[4]int{0, 0, 0, 2}, [3]int{0, 1, 2}, [3]int{3, 4, 5}, [3]int{78, 79, 80}},
		{[4]int{0, 0, 1, 0}, [3]int{0, 3, 6}, [3]int{1, 4, 7}, [3]int{74, 77, 80}},
		{[4]int{1, 0, 0, 0}, [3]int{0, 27, 54}, [3]int{1, 28, 55}, [3]int{26, 53, 80}},
		{[4]int{1, 1, 1, 1}, [3]int{0, 40, 80}, [3]int{1, 41, 78}, [3]int{26, 27, 67}},
		{[4]int{0, 0, 1, 2}, [3]int{0, 5, 7}, [3]int{1, 3, 8}, [3]int{74, 76, 78}},
	} {
		lines, ok := impl.DeckParting(one.c)
		if !ok || len(lines) != 27 || lines[0] != one.first || lines[1] != one.second || lines[26] != one.last {
			t.Errorf("DeckParting(%v) = %v, %v", one.c, lines, ok)
		}
	}
}

func TestDeckPartingFails(t *testing.T) {
	for _, c := range append(oddCards(), [4]int{}, [4]int{0, 0, 0, 3}, [4]int{3, 0, 0, 0}, [4]int{0, -1, 0, 0}) {
		if lines, ok := impl.DeckParting(c); ok || len(lines) != 0 {
			t.Errorf("DeckParting(%v) = %v, %v", c, lines, ok)
		}
	}
}
