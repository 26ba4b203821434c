package tests

import (
	"math"
	"slices"
	"testing"

	"loop.example/g01203/impl"
)

func TestSpansOfHands(t *testing.T) {
	found := map[int]int{}
	for _, h := range flatHands() {
		want, dimension := spanBySpaces(h), dimensionByCards(h)
		found[dimension]++
		if span, ok := impl.SpanOf(h); !ok || !slices.Equal(span, want) {
			t.Errorf("SpanOf(%v) = %v, %v; want %v", h, span, ok, want)
		}
		if d, ok := impl.DimensionOf(h); !ok || d != dimension {
			t.Errorf("DimensionOf(%v) = %d, %v; want %d", h, d, ok, dimension)
		}
		flat := len(h) > 0 && isClosed(h)
		if is, ok := impl.IsFlat(h); !ok || is != flat {
			t.Errorf("IsFlat(%v) = %v, %v; want %v", h, is, ok, flat)
		}
	}
	for dimension := -1; dimension <= 4; dimension++ {
		if found[dimension] == 0 {
			t.Errorf("there are no hands of dimension %d", dimension)
		}
	}
}

func TestKnownSpans(t *testing.T) {
	for _, one := range []struct {
		h, span   [][4]int
		dimension int
		flat      bool
	}{
		{nil, nil, -1, false},
		{[][4]int{}, nil, -1, false},
		{handOf(0), handOf(0), 0, true},
		{handOf(80), handOf(80), 0, true},
		{handOf(0, 80), handOf(0, 40, 80), 1, false},
		{handOf(0, 40, 80), handOf(0, 40, 80), 1, true},
		{handOf(5, 42), handOf(5, 42, 73), 1, false},
		{handOf(0, 1, 3), allCards()[:9], 2, false},
		{handOf(0, 1, 2, 6), allCards()[:9], 2, false},
		{handOf(0, 1, 2, 3, 4, 5, 6, 7), allCards()[:9], 2, false},
		{allCards()[:9], allCards()[:9], 2, true},
		{handOf(0, 13, 27), handOf(0, 13, 26, 27, 40, 53, 54, 67, 80), 2, false},
		{handOf(0, 1, 3, 9), allCards()[:27], 3, false},
		{allCards()[54:80], allCards()[54:], 3, false},
		{allCards()[54:], allCards()[54:], 3, true},
		{handOf(0, 1, 3, 9, 27), allCards(), 4, false},
		{allCards()[20:47], allCards(), 4, false},
		// Nine cards in three lines, no two of which are in one plane.
		{handOf(0, 1, 2, 9, 12, 15, 54, 58, 62), allCards(), 4, false},
	} {
		if span, ok := impl.SpanOf(one.h); !ok || !slices.Equal(span, one.span) {
			t.Errorf("SpanOf(%v) = %v, %v; want %v", one.h, span, ok, one.span)
		}
		if d, ok := impl.DimensionOf(one.h); !ok || d != one.dimension {
			t.Errorf("DimensionOf(%v) = %d, %v; want %d", one.h, d, ok, one.dimension)
		}
		if flat, ok := impl.IsFlat(one.h); !ok || flat != one.flat {
			t.Errorf("IsFlat(%v) = %v, %v; want %v", one.h, flat, ok, one.flat)
		}
	}
}

func TestSpansAreClosedAndStayTheSame(t *testing.T) {
	for _, h := range flatHands() {
		span, ok := impl.SpanOf(h)
		if !ok || !isClosed(span) || !hasCards(span, h) {
			t.Errorf("SpanOf(%v) = %v, %v", h, span, ok)
		}
		again, ok := impl.SpanOf(span)
		if len(span) > impl.MaxHand {
			// All cards are no hand.
			if ok || len(again) != 0 {
				t.Errorf("SpanOf(%v) = %v, %v", span, again, ok)
			}
			continue
		}
		if !ok || !slices.Equal(again, span) {
			t.Errorf("SpanOf(%v) = %v, %v", span, again, ok)
		}
		if flat, ok := impl.IsFlat(span); !ok || flat != (len(h) > 0) {
			t.Errorf("IsFlat(%v) = %v, %v", span, flat, ok)
		}
	}
}

// checkSpan checks all that is told of a hand by its span.
func checkSpan(t *testing.T, h, want [][4]int, dimension int, flat bool) {
	t.Helper()
	span, ok := impl.SpanOf(h)
	d, fine := impl.DimensionOf(h)
	is, good := impl.IsFlat(h)
	if !ok || !fine || !good || !slices.Equal(span, want) || d != dimension || is != flat {
		t.Fatalf("%v: SpanOf %v, %v, DimensionOf %d, %v, IsFlat %v, %v", h, span, ok, d, fine, is, good)
	}
}

// All flats that are hands, and what they become without a card, with one more, or with one that
// is exchanged.
func TestFlatsOfEachDimension(t *testing.T) {
	for dimension := range 4 {
		for i, flat := range everyFlat(dimension) {
			checkSpan(t, flat, flat, dimension, true)
			outside := othersThan(flat)
			other := outside[(7*i)%len(outside)]
			for place := range flat {
				less := slices.Delete(slices.Clone(flat), place, place+1)
				if len(less) == 0 {
					checkSpan(t, less, less, -1, false)
					continue
				}
				checkSpan(t, less, flat, dimension, false)
				exchanged := joinedHand(less, [][4]int{other})
				if is, ok := impl.IsFlat(exchanged); !ok || is {
					t.Fatalf("IsFlat(%v) = %v, %v", exchanged, is, ok)
				}
			}
			more := joinedHand(flat, [][4]int{other})
			if len(more) > impl.MaxHand {
				continue
			}
			if is, ok := impl.IsFlat(more); !ok || is {
				t.Fatalf("IsFlat(%v) = %v, %v", more, is, ok)
			}
			if d, ok := impl.DimensionOf(more); !ok || d != dimension+1 {
				t.Fatalf("DimensionOf(%v) = %d, %v", more, d, ok)
			}
		}
	}
}

func TestNumbersOfFlats(t *testing.T) {
	for dimension, want := range []int{81, 1080, 1170, 120, 1} {
		flats := everyFlat(dimension)
		if count, ok := impl.CountFlats(dimension); !ok || count != want || count != len(flats) {
			t.Errorf("CountFlats(%d) = %d, %v; want %d, and there are %d", dimension, count, ok, want, len(flats))
		}
	}
	for _, dimension := range []int{-1, 5, 6, -4, 256, 1 << 32, math.MaxInt, math.MinInt} {
		if count, ok := impl.CountFlats(dimension); ok || count != 0 {
			t.Errorf("CountFlats(%d) = %d, %v", dimension, count, ok)
		}
	}
}

func TestSpansOfOddHands(t *testing.T) {
	for _, h := range oddHands() {
		if span, ok := impl.SpanOf(h); ok || len(span) != 0 {
			t.Errorf("SpanOf(%v) = %v, %v", h, span, ok)
		}
		if d, ok := impl.DimensionOf(h); ok || d != 0 {
			t.Errorf("DimensionOf(%v) = %d, %v", h, d, ok)
		}
		if flat, ok := impl.IsFlat(h); ok || flat {
			t.Errorf("IsFlat(%v) = %v, %v", h, flat, ok)
		}
	}
}
