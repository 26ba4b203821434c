package tests

import (
	"slices"
	"testing"

	"loop.example/g01203/impl"
)

// checkMiddles checks that a call has returned these middles.
func checkMiddles(t *testing.T, cards, want [][4]int) {
	t.Helper()
	middles, ok := impl.MiddlesOf(cards[0], cards[1], cards[2], cards[3])
	if !ok || !slices.Equal(middles, want) {
		t.Fatalf("MiddlesOf(%v) = %v, %v; want %v", cards, middles, ok, want)
	}
}

// Promise 10, for all four cards that there are: no two partings share a third card, so that
// there is at most one middle. It is none of the four cards.
func TestMiddlesOfAllFourCards(t *testing.T) {
	cards, thirds := allCards(), thirdNumbers
	quads := 0
	for d := range 81 {
		for c := range d {
			for b := range c {
				for a := range b {
					want := [][4]int{}
					for _, third := range [][3]int{{thirds[a][b], thirds[c][d]}, {thirds[a][c], thirds[b][d]}, {thirds[a][d], thirds[b][c]}} {
						if third[0] == third[1] {
							want = append(want, cards[third[0]])
						}
					}
					if len(want) > 1 {
						t.Fatal("several partings", a, b, c, d)
					}
					four := [][4]int{cards[a], cards[b], cards[c], cards[d]}
					checkMiddles(t, four, want)
					if len(want) == 1 && slices.Contains(four, want[0]) {
						t.Fatal(four, "have the middle", want)
					}
					quads += len(want)
				}
			}
		}
	}
	// Each card is the third card of 40 pairs.
	if want := 81 * choicesOf(40, 2); quads != want {
		t.Error(quads, "quads of all cards; want", want)
	}
}

func TestMiddlesInEachOrder(t *testing.T) {
	for _, one := range []struct {
		cards [][4]int
		want  [][4]int
	}{
		{handOf(0, 2, 40, 79), handOf(1)},
		{handOf(1, 2, 3, 6), handOf(0)},
		{handOf(0, 1, 3, 4), handOf(8)},
		{handOf(9, 18, 27, 54), handOf(0)},
		{handOf(0, 80, 1, 79), handOf(40)},
		{handOf(78, 79, 72, 76), handOf(80)},
		{handOf(0, 1, 3, 9), nil},
		{handOf(0, 1, 3, 80), nil},
		// Three of them are a line.
		{handOf(0, 1, 2, 3), nil},
		{handOf(0, 1, 2, 80), nil},
		{handOf(0, 40, 80, 1), nil},
		{handOf(13, 14, 5, 23), nil},
	} {
		if want := middlesByTraits(one.cards); !slices.Equal(one.want, want) {
			t.Errorf("%v have the middles %v, not %v", one.cards, want, one.want)
		}
		for _, order := range everyTraits() {
			checkMiddles(t, cardsOf(one.cards, order[:]), one.want)
		}
	}
}

// With a line among them, four cards are no quad: the third card of two of its cards is the
// last one.
func TestLinesAreInNoQuad(t *testing.T) {
	for i, line := range linesByTraits(allCards()) {
		for number := i % 7; number < 81; number += 7 {
			if !slices.Contains(line[:], number) {
				checkMiddles(t, handOf(line[0], line[1], line[2], number), nil)
			}
		}
	}
}

// checkNoMiddles checks that a call fails.
func checkNoMiddles(t *testing.T, cards [4][4]int) {
	t.Helper()
	if middles, ok := impl.MiddlesOf(cards[0], cards[1], cards[2], cards[3]); ok || len(middles) != 0 {
		t.Errorf("MiddlesOf(%v) = %v, %v", cards, middles, ok)
	}
}

func TestMiddlesOfSameAndOddCards(t *testing.T) {
	for _, four := range [][][4]int{handOf(0, 2, 40, 79), handOf(0, 1, 3, 9), handOf(0, 1, 2, 3), handOf(80, 1, 79, 0)} {
		for i := range 4 {
			for j := range 4 {
				same := [4][4]int(four)
				same[i] = same[j]
				if i != j {
					checkNoMiddles(t, same)
				}
			}
			for _, odd := range oddCards() {
				cards := [4][4]int(four)
				cards[i] = odd
				checkNoMiddles(t, cards)
				// Without the odd card there are still others that are the same.
				cards[(i+1)%4] = cards[(i+2)%4]
				checkNoMiddles(t, cards)
			}
		}
	}
	for _, number := range []int{0, 1, 40, 80} {
		c, other := allCards()[number], allCards()[(number+1)%81]
		checkNoMiddles(t, [4][4]int{c, c, c, c})
		checkNoMiddles(t, [4][4]int{c, other, c, other})
		checkNoMiddles(t, [4][4]int{c, c, other, other})
		checkNoMiddles(t, [4][4]int{c, other, other, c})
	}
	for _, odd := range oddCards() {
		checkNoMiddles(t, [4][4]int{odd, odd, odd, odd})
	}
}

func TestQuads(t *testing.T) {
	counts := map[int]int{}
	for _, h := range atMost(otherHands(), impl.MaxQuads) {
		want := quadsByTraits(h)
		if quads, ok := impl.QuadsIn(h); !ok || !slices.Equal(quads, want) {
			t.Fatalf("QuadsIn(%v) = %v, %v; want %v", h, quads, ok, want)
		}
		if len(want) > 0 {
			counts[len(h)]++
		}
	}
	for size := 5; size <= impl.MaxQuads; size++ {
		if counts[size] < 10 {
			t.Error("only", counts[size], "hands of", size, "cards with quads")
		}
	}
}

func TestQuadsOfSomeHands(t *testing.T) {
	for _, one := range []struct {
		h    [][4]int
		want [][4]int
	}{
		{nil, nil},
		{handOf(7), nil},
		{handOf(0, 1), nil},
		{handOf(0, 1, 2), nil},
		{handOf(0, 1, 3), nil},
		{handOf(0, 1, 2, 3), nil},
		{handOf(0, 1, 3, 9), nil},
		{handOf(0, 1, 3, 4), [][4]int{{0, 1, 2, 3}}},
		// Also where a line is beside the quad.
		{handOf(0, 1, 2, 3, 4), [][4]int{{0, 1, 3, 4}, {0, 2, 3, 4}, {1, 2, 3, 4}}},
		{handOf(1, 2, 3, 6, 40, 80), [][4]int{{0, 1, 2, 3}, {0, 1, 4, 5}, {2, 3, 4, 5}}},
		{squareHand(), nil},
	} {
		if want := quadsByTraits(one.h); !slices.Equal(one.want, want) {
			t.Errorf("%v has the quads %v, not %v", one.h, want, one.want)
		}
		if quads, ok := impl.QuadsIn(one.h); !ok || !slices.Equal(quads, one.want) {
			t.Errorf("QuadsIn(%v) = %v, %v; want %v", one.h, quads, ok, one.want)
		}
	}
	// Each card of a plane is the third card of four pairs of it.
	if quads, ok := impl.QuadsIn(allCards()[:9]); !ok || len(quads) != 9*6 {
		t.Error("the quads of a plane", quads, ok)
	}
}

func TestQuadsOfGreatHands(t *testing.T) {
	for _, cards := range [][][4]int{allCards(), allCards()[40:], greatCap()} {
		if quads, ok := impl.QuadsIn(cards[:12]); !ok || !slices.Equal(quads, quadsByTraits(cards[:12])) || len(quads) == 0 {
			t.Errorf("QuadsIn(%v) = %v, %v", cards[:12], quads, ok)
		}
		for size := 13; size <= min(28, len(cards)); size++ {
			if quads, ok := impl.QuadsIn(cards[:size]); ok || len(quads) != 0 {
				t.Errorf("QuadsIn(%v) = %v, %v", cards[:size], quads, ok)
			}
		}
	}
	if impl.MaxQuads != 12 {
		t.Error("MaxQuads is", impl.MaxQuads)
	}
}

// hasQuadByPairs reports whether two pairs of a hand have the same third card; two pairs with a
// common card never have.
func hasQuadByPairs(h [][4]int) bool {
	found := map[[4]int]bool{}
	for i, a := range h {
		for _, b := range h[:i] {
			third := thirdByTraits(a, b)
			if found[third] {
				return true
			}
			found[third] = true
		}
	}
	return false
}

func TestHandsWithQuads(t *testing.T) {
	without := map[int]int{}
	for _, h := range otherHands() {
		want := hasQuadByPairs(h)
		if has, ok := impl.HasQuad(h); !ok || has != want {
			t.Fatalf("HasQuad(%v) = %v, %v; want %v", h, has, ok, want)
		}
		if quads, ok := impl.QuadsIn(h); ok && want != (len(quads) > 0) {
			t.Fatalf("QuadsIn(%v) = %v, HasQuad %v", h, quads, want)
		}
		if !want {
			without[len(h)]++
		}
	}
	for size := range 10 {
		if without[size] == 0 {
			t.Error("no hand of", size, "cards without quads")
		}
	}
}

// The Guarantee: hands without lines have a quad from ten cards on, and some of nine have none.
func TestCapsOfTenCardsHaveQuads(t *testing.T) {
	for _, full := range [][][4]int{lowCap(), greatCap()} {
		choices := placeChoices(len(full), 10)
		for i := 0; i < len(choices); i += 7 {
			part := cardsOf(full, choices[i])
			if has, ok := impl.HasQuad(part); !ok || !has {
				t.Fatalf("HasQuad(%v) = %v, %v", part, has, ok)
			}
		}
	}
	sizes := map[int]int{}
	for _, h := range append(someCaps(), atMost(otherHands(), 9)...) {
		filled, filling := impl.FillCap(h)
		for size := 10; size <= len(filled) && filling; size++ {
			for _, part := range [][][4]int{filled[:size], filled[len(filled)-size:], filled[(len(filled)-size)/2:][:size]} {
				if has, ok := impl.HasQuad(part); !ok || !has {
					t.Fatalf("HasQuad(%v) = %v, %v", part, has, ok)
				}
			}
			sizes[size]++
		}
	}
	for size := 10; size <= 20; size++ {
		if sizes[size] == 0 {
			t.Error("no cap of", size, "cards")
		}
	}
	nine := squareHand()
	if has, ok := impl.HasQuad(nine); !ok || has || len(linesByTraits(nine)) != 0 {
		t.Errorf("HasQuad(%v) = %v, %v", nine, has, ok)
	}
	for _, c := range othersThan(nine) {
		ten := joinedHand(nine, [][4]int{c})
		if has, ok := impl.HasQuad(ten); !ok || !has {
			t.Errorf("HasQuad(%v) = %v, %v", ten, has, ok)
		}
	}
}

func TestSharedMiddles(t *testing.T) {
	several := 0
	for _, h := range otherHands() {
		want, most, as := [4]int{}, 0, 0
		for _, c := range allCards() {
			count := len(pairsByTraits(h, c))
			if count > most {
				want, most, as = c, count, 0
			}
			if count == most {
				as++
			}
		}
		card, count, ok := impl.SharedMiddle(h)
		if ok != (len(h) >= 2) || card != want || count != most {
			t.Fatalf("SharedMiddle(%v) = %v, %d, %v; want %v, %d", h, card, count, ok, want, most)
		}
		if ok && as > 1 {
			several++
		}
	}
	if several < 100 {
		t.Error("only", several, "hands with several such cards")
	}
}

func TestSharedMiddlesOfSomeHands(t *testing.T) {
	for _, one := range []struct {
		h      [][4]int
		number int
		count  int
	}{
		{handOf(0, 1), 2, 1},
		{handOf(1, 2), 0, 1},
		{handOf(79, 80), 78, 1},
		// Several cards are the third card of one pair, of two pairs, and of four.
		{handOf(0, 1, 2), 0, 1},
		{handOf(0, 1, 3), 2, 1},
		{handOf(78, 79, 80), 78, 1},
		{handOf(0, 1, 3, 4), 8, 2},
		{handOf(0, 1, 2, 3, 4), 6, 2},
		{handOf(0, 1, 2, 3, 4, 5), 6, 3},
		{allCards()[:9], 0, 4},
		{allCards()[27:54], 27, 13},
		{greatCap(), 0, 10},
	} {
		if card, count, ok := impl.SharedMiddle(one.h); !ok || card != allCards()[one.number] || count != one.count {
			t.Errorf("SharedMiddle(%v) = %v, %d, %v; want %v, %d", one.h, card, count, ok, allCards()[one.number], one.count)
		}
	}
}

func TestQuadFunctionsFail(t *testing.T) {
	for _, h := range oddHands() {
		if quads, ok := impl.QuadsIn(h); ok || len(quads) != 0 {
			t.Errorf("QuadsIn(%v) = %v, %v", h, quads, ok)
		}
		if has, ok := impl.HasQuad(h); ok || has {
			t.Errorf("HasQuad(%v) = %v, %v", h, has, ok)
		}
	}
	few := [][][4]int{nil, {}}
	for number := range 81 {
		few = append(few, handOf(number))
	}
	for _, h := range append(few, oddHands()...) {
		if card, count, ok := impl.SharedMiddle(h); ok || card != [4]int{} || count != 0 {
			t.Errorf("SharedMiddle(%v) = %v, %d, %v", h, card, count, ok)
		}
	}
}
