package tests

import (
	"slices"
	"testing"

	"loop.example/g01203/impl"
)

// trianglesOf returns all three different cards of a list that are no line, in each order.
func trianglesOf(cards [][4]int) [][3][4]int {
	triangles := [][3][4]int{}
	for _, a := range cards {
		for _, b := range cards {
			for _, c := range cards {
				if a != b && a != c && b != c && !isLineByTraits(a, b, c) {
					triangles = append(triangles, [3][4]int{a, b, c})
				}
			}
		}
	}
	return triangles
}

// All three different cards that are no line, in each order: each three are in just one plane.
func TestPlanesAndSquaresOfAllTriangles(t *testing.T) {
	count := 0
	for _, plane := range everyPlane() {
		for _, corners := range trianglesOf(plane) {
			count++
			a, b, c := corners[0], corners[1], corners[2]
			if found, ok := impl.PlaneOf(a, b, c); !ok || !slices.Equal(found, plane) {
				t.Fatalf("PlaneOf(%v, %v, %v) = %v, %v; want %v", a, b, c, found, ok, plane)
			}
			square, ok := impl.MagicSquare(a, b, c)
			if !ok || square[0] != a || square[1] != b || square[3] != c {
				t.Fatalf("MagicSquare(%v, %v, %v) = %v, %v", a, b, c, square, ok)
			}
			checkSquare(t, square, plane)
		}
	}
	if want := 81*80*79 - 6*1080; count != want {
		t.Errorf("there are %d triangles; want %d", count, want)
	}
}

// checkSquare checks that a square has the cards of a plane, and that each row, column and
// diagonal is a line.
func checkSquare(t *testing.T, square [9][4]int, plane [][4]int) {
	t.Helper()
	sorted := square
	slices.SortFunc(sorted[:], byTraits)
	if !slices.Equal(sorted[:], plane) {
		t.Fatalf("%v has not the cards of %v", square, plane)
	}
	for _, line := range [][3]int{
		{0, 1, 2}, {3, 4, 5}, {6, 7, 8}, {0, 3, 6}, {1, 4, 7}, {2, 5, 8},
		{0, 4, 8}, {1, 5, 6}, {2, 3, 7}, {2, 4, 6}, {1, 3, 8}, {0, 5, 7},
	} {
		if !isLineByTraits(square[line[0]], square[line[1]], square[line[2]]) {
			t.Fatalf("%v has no line at %v", square, line)
		}
	}
	for place := range 4 {
		if middle, ok := impl.ThirdCard(square[place], square[8-place]); !ok || middle != square[4] {
			t.Fatalf("%v: between %d and %d is %v", square, place, 8-place, middle)
		}
	}
}

// A square that was worked out beside the program.
func TestKnownSquare(t *testing.T) {
	want := [9][4]int{
		{0, 1, 2, 0}, {2, 1, 0, 0}, {1, 1, 1, 0},
		{0, 0, 2, 2}, {2, 0, 0, 2}, {1, 0, 1, 2},
		{0, 2, 2, 1}, {2, 2, 0, 1}, {1, 2, 1, 1},
	}
	if square, ok := impl.MagicSquare(want[0], want[1], want[3]); !ok || square != want {
		t.Errorf("MagicSquare = %v, %v; want %v", square, ok, want)
	}
	plane := [][4]int{want[3], want[0], want[6], want[5], want[2], want[8], want[4], want[1], want[7]}
	if found, ok := impl.PlaneOf(want[8], want[1], want[5]); !ok || !slices.Equal(found, plane) {
		t.Errorf("PlaneOf = %v, %v; want %v", found, ok, plane)
	}
}

// checkNoPlane checks that three cards have no plane and no square.
func checkNoPlane(t *testing.T, a, b, c [4]int) {
	t.Helper()
	plane, ok := impl.PlaneOf(a, b, c)
	square, fine := impl.MagicSquare(a, b, c)
	if ok || fine || len(plane) != 0 || square != [9][4]int{} {
		t.Fatalf("%v, %v and %v: PlaneOf %v, %v, MagicSquare %v, %v", a, b, c, plane, ok, square, fine)
	}
}

func TestLinesAndSameCardsHaveNoPlane(t *testing.T) {
	for _, line := range everyFlat(1) {
		for _, order := range [][3]int{{0, 1, 2}, {0, 2, 1}, {1, 0, 2}, {1, 2, 0}, {2, 0, 1}, {2, 1, 0}} {
			checkNoPlane(t, line[order[0]], line[order[1]], line[order[2]])
		}
	}
	for _, a := range allCards() {
		for _, b := range allCards() {
			checkNoPlane(t, a, a, b)
			checkNoPlane(t, a, b, a)
			checkNoPlane(t, b, a, a)
		}
	}
}

func TestOddCardsHaveNoPlane(t *testing.T) {
	others := append(oddCards(), [4]int{}, [4]int{0, 1, 2, 1}, [4]int{1, 1, 0, 2}, [4]int{2, 2, 2, 2})
	for _, odd := range oddCards() {
		for _, b := range others {
			for _, c := range others {
				checkNoPlane(t, odd, b, c)
				checkNoPlane(t, b, odd, c)
				checkNoPlane(t, b, c, odd)
			}
		}
	}
}

func TestNumbersOfPlanesInHands(t *testing.T) {
	planes := everyPlane()
	hands := flatHands()
	for i := 0; i < len(planes); i += 31 {
		first, second, third := planes[i], planes[(3*i+1)%len(planes)], planes[(7*i+2)%len(planes)]
		if three := joinedHand(first, second, third); len(three) <= impl.MaxHand {
			hands = append(hands, three)
		}
	}
	for _, h := range hands {
		want := 0
		for _, plane := range planes {
			if hasCards(h, plane) {
				want++
			}
		}
		if count, ok := impl.CountPlanes(h); !ok || count != want {
			t.Errorf("CountPlanes(%v) = %d, %v; want %d", h, count, ok, want)
		}
	}
}

func TestKnownNumbersOfPlanes(t *testing.T) {
	plane := allCards()[:9]
	for _, one := range []struct {
		h    [][4]int
		want int
	}{
		{nil, 0},
		{handOf(40), 0},
		{handOf(0, 40, 80), 0},
		{handOf(0, 1, 3), 0},
		{allCards()[:8], 0},
		{allCards()[1:9], 0},
		{plane, 1},
		{allCards()[:17], 1},
		{allCards()[:18], 2},
		// Planes with a common line, and planes with a common card.
		{joinedHand(plane, handOf(9, 10, 11, 18, 19, 20)), 2},
		{joinedHand(plane, handOf(9, 18, 27, 36, 45, 54, 63, 72)), 2},
		{handOf(0, 1, 2, 9, 12, 15, 54, 58, 62), 0},
		// Each card of a space is in thirteen of its planes.
		{allCards()[:26], 26},
		{allCards()[:27], 39},
		{spaceBy([4]int{1, 2, 2, 1}, 2), 39},
		{greatCap(), 0},
	} {
		if count, ok := impl.CountPlanes(one.h); !ok || count != one.want {
			t.Errorf("CountPlanes(%v) = %d, %v; want %d", one.h, count, ok, one.want)
		}
	}
	for _, h := range oddHands() {
		if count, ok := impl.CountPlanes(h); ok || count != 0 {
			t.Errorf("CountPlanes(%v) = %d, %v", h, count, ok)
		}
	}
}
