package tests

import (
	"math"
	"slices"
	"testing"

	"loop.example/g01203/impl"
)

func TestSearchesForPickings(t *testing.T) {
	parted := 0
	for _, h := range partingPools() {
		counts, first := [6]int{}, [][3]int{}
		for _, picking := range pickingsByCards(h) {
			counts[len(picking)]++
			// They are in order, so that the first one of a length comes first.
			if len(picking) > len(first) {
				first = picking
			}
		}
		for n, want := range counts {
			if count, ok := impl.CountPickings(h, n); !ok || count != want {
				t.Fatalf("CountPickings(%v, %d) = %d, %v; want %d", h, n, count, ok, want)
			}
		}
		if picking, ok := impl.FirstPicking(h); !ok || !slices.Equal(picking, first) {
			t.Fatalf("FirstPicking(%v) = %v, %v; want %v", h, picking, ok, first)
		}
		if most, ok := impl.MostDisjoint(h); !ok || most != len(first) {
			t.Fatalf("MostDisjoint(%v) = %d, %v; want %d", h, most, ok, len(first))
		}
		partings := 0
		if len(h)%3 == 0 {
			partings = counts[len(h)/3]
		}
		if count, ok := impl.CountPartings(h); !ok || count != partings {
			t.Fatalf("CountPartings(%v) = %d, %v; want %d", h, count, ok, partings)
		}
		if partings > 0 {
			parted++
		}
	}
	if parted < 50 || parted > len(partingPools())-50 {
		t.Errorf("%d of %d hands are parted", parted, len(partingPools()))
	}
}

// A picking of FirstPicking has MostDisjoint lines, and GreedyPicking not more; both are pickings.
func TestFirstPickingsHaveAsManyLinesAsCanBe(t *testing.T) {
	fewer := 0
	for _, h := range partingPools() {
		first, ok := impl.FirstPicking(h)
		most, fine := impl.MostDisjoint(h)
		greedy, good := impl.GreedyPicking(h)
		if !ok || !fine || !good || len(first) != most || len(greedy) > most {
			t.Errorf("%v: FirstPicking %v, MostDisjoint %d, GreedyPicking %v", h, first, most, greedy)
		}
		for _, picking := range [][][3]int{first, greedy} {
			if is, ok := impl.IsPicking(h, picking); !ok || !is || !isPickingByCards(h, picking) {
				t.Errorf("IsPicking(%v, %v) = %v, %v", h, picking, is, ok)
			}
		}
		if len(greedy) < most {
			fewer++
		}
	}
	if fewer == 0 {
		t.Error("GreedyPicking has as many lines for all hands")
	}
}

func TestKnownPickings(t *testing.T) {
	for _, one := range []struct {
		h        [][4]int
		first    [][3]int
		counts   []int
		partings int
	}{
		{nil, nil, []int{1}, 1},
		{[][4]int{}, nil, []int{1}, 1},
		{handOf(40), nil, []int{1}, 0},
		{handOf(0, 1), nil, []int{1}, 0},
		{handOf(0, 1, 3), nil, []int{1}, 0},
		{handOf(0, 40, 80), [][3]int{{0, 1, 2}}, []int{1, 1}, 1},
		{handOf(0, 1, 2, 40), [][3]int{{0, 1, 2}}, []int{1, 1}, 0},
		{handOf(0, 1, 2, 40, 80), [][3]int{{0, 1, 2}}, []int{1, 2}, 0},
		{handOf(0, 1, 2, 27, 28, 29), [][3]int{{0, 1, 2}, {3, 4, 5}}, []int{1, 2, 1}, 1},
		{handOf(0, 27, 28, 29, 40, 80), [][3]int{{0, 4, 5}, {1, 2, 3}}, []int{1, 2, 1}, 1},
		// The first line of all is in no picking with as many lines as can be.
		{smallPickingHand(), [][3]int{{0, 3, 4}, {1, 5, 6}}, []int{1, 3, 1}, 0},
		// Nine cards without a parting: all lines cross in one.
		{handOf(0, 1, 2, 3, 6, 9, 18, 27, 54), [][3]int{{0, 1, 2}}, []int{1, 4}, 0},
		{allCards()[:9], [][3]int{{0, 1, 2}, {3, 4, 5}, {6, 7, 8}}, []int{1, 12, 12, 4}, 4},
		// A plane and two lines elsewhere, each of which can be put to any picking of the plane.
		{allCards()[:impl.MaxParting], [][3]int{{0, 1, 2}, {3, 4, 5}, {6, 7, 8}, {9, 10, 11}, {12, 13, 14}}, []int{1, 12 + 2, 12 + 24 + 1, 4 + 24 + 12, 8 + 12, 4}, 4},
		{greatCap()[:impl.MaxParting], nil, []int{1}, 0},
	} {
		if first, ok := impl.FirstPicking(one.h); !ok || !slices.Equal(first, one.first) {
			t.Errorf("FirstPicking(%v) = %v, %v; want %v", one.h, first, ok, one.first)
		}
		if most, ok := impl.MostDisjoint(one.h); !ok || most != len(one.first) {
			t.Errorf("MostDisjoint(%v) = %d, %v; want %d", one.h, most, ok, len(one.first))
		}
		for n := range 6 {
			want := 0
			if n < len(one.counts) {
				want = one.counts[n]
			}
			if count, ok := impl.CountPickings(one.h, n); !ok || count != want {
				t.Errorf("CountPickings(%v, %d) = %d, %v; want %d", one.h, n, count, ok, want)
			}
		}
		if partings, ok := impl.CountPartings(one.h); !ok || partings != one.partings {
			t.Errorf("CountPartings(%v) = %d, %v; want %d", one.h, partings, ok, one.partings)
		}
	}
}

func TestCountPickingsFailsForOtherNumbers(t *testing.T) {
	for _, h := range [][][4]int{nil, handOf(0, 1, 2), allCards()[:9], allCards()[:impl.MaxParting]} {
		for _, n := range []int{-1, 6, -5, 7, 15, 256, 1 << 32, math.MaxInt, math.MinInt, math.MaxInt/3 + 1} {
			if count, ok := impl.CountPickings(h, n); ok || count != 0 {
				t.Errorf("CountPickings(%v, %d) = %d, %v", h, n, count, ok)
			}
		}
	}
}

func TestSearchesForPickingsFail(t *testing.T) {
	lists := oddHands()
	for _, h := range lineHands() {
		if len(h) > impl.MaxParting {
			lists = append(lists, h)
		}
	}
	lists = append(lists, allCards()[:impl.MaxParting+1], lowCap(), greatCap(), allCards()[:impl.MaxHand])
	for _, h := range lists {
		if most, ok := impl.MostDisjoint(h); ok || most != 0 {
			t.Errorf("MostDisjoint(%v) = %d, %v", h, most, ok)
		}
		if first, ok := impl.FirstPicking(h); ok || len(first) != 0 {
			t.Errorf("FirstPicking(%v) = %v, %v", h, first, ok)
		}
		for n := -1; n <= 6; n++ {
			if count, ok := impl.CountPickings(h, n); ok || count != 0 {
				t.Errorf("CountPickings(%v, %d) = %d, %v", h, n, count, ok)
			}
		}
		if partings, ok := impl.CountPartings(h); ok || partings != 0 {
			t.Errorf("CountPartings(%v) = %d, %v", h, partings, ok)
		}
	}
}
