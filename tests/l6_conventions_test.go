package tests

import (
	"fmt"
	"slices"
	"testing"

	"loop.example/g01203/impl"
)

// planeCalls are all functions of chapter 6 that take a list of cards, each as one that tells
// all of its results.
func planeCalls() map[string]func([][4]int) string {
	calls := map[string]func([][4]int) string{
		"SpanOf":      func(h [][4]int) string { span, ok := impl.SpanOf(h); return tell(span, ok) },
		"DimensionOf": func(h [][4]int) string { d, ok := impl.DimensionOf(h); return tell(d, ok) },
		"IsFlat":      func(h [][4]int) string { flat, ok := impl.IsFlat(h); return tell(flat, ok) },
		"CountPlanes": func(h [][4]int) string { count, ok := impl.CountPlanes(h); return tell(count, ok) },
		"MostInSpace": func(h [][4]int) string { most, w, value, ok := impl.MostInSpace(h); return tell(most, w, value, ok) },
		"SpacesWith":  func(h [][4]int) string { spaces, ok := impl.SpacesWith(h); return tell(spaces, ok) },
	}
	for _, w := range [][4]int{{0, 0, 0, 1}, {1, 2, 0, 2}, {}, {2, 1, 0, 0}, {1, 3, 0, 0}, {-1, 1, 0, 0}} {
		calls[fmt.Sprint("SplitBy", w)] = func(h [][4]int) string { split, ok := impl.SplitBy(h, w); return tell(split, ok) }
	}
	return calls
}

func TestPlaneFunctionsReturnAndLeaveTheirArguments(t *testing.T) {
	checkHandCalls(t, planeCalls())
}

func TestPlaneFunctionsReturnTheSame(t *testing.T) {
	cards := slices.Concat(handOf(0, 1, 5, 40, 79, 80), oddCards()[:12], oddWeights()[:12])
	for _, a := range cards {
		for _, b := range cards {
			for _, c := range cards {
				first, ok := impl.PlaneOf(a, b, c)
				again, fine := impl.PlaneOf(a, b, c)
				if !slices.Equal(first, again) || ok != fine {
					t.Errorf("PlaneOf(%v, %v, %v): %v, %v and %v, %v", a, b, c, first, ok, again, fine)
				}
				square, ok := impl.MagicSquare(a, b, c)
				same, fine := impl.MagicSquare(a, b, c)
				if square != same || ok != fine {
					t.Errorf("MagicSquare(%v, %v, %v): %v, %v and %v, %v", a, b, c, square, ok, same, fine)
				}
			}
			value, ok := impl.ValueBy(a, b)
			if same, fine := impl.ValueBy(a, b); same != value || fine != ok {
				t.Errorf("ValueBy(%v, %v): %d, %v and %d, %v", a, b, value, ok, same, fine)
			}
		}
	}
}

// Results that are lists can be written to: neither an argument nor another result changes.
func TestSpansPlanesAndSpacesShareNoMemory(t *testing.T) {
	h, flat := handOf(0, 1, 3), allCards()[:9]
	for name, result := range map[string]func() [][4]int{
		"SpanOf":                  func() [][4]int { span, _ := impl.SpanOf(h); return span },
		"SpanOf of a flat":        func() [][4]int { span, _ := impl.SpanOf(flat); return span },
		"PlaneOf":                 func() [][4]int { plane, _ := impl.PlaneOf(h[0], h[1], h[2]); return plane },
		"SpacesWith":              func() [][4]int { spaces, _ := impl.SpacesWith(h); return spaces },
		"SpacesWith of no cards":  func() [][4]int { spaces, _ := impl.SpacesWith(nil); return spaces },
		"SpacesWith of one space": func() [][4]int { spaces, _ := impl.SpacesWith(handOf(0, 1, 3, 9)); return spaces },
	} {
		first, second := result(), result()
		want := slices.Clone(first)
		first = first[:cap(first)]
		for i := range first {
			first[i] = [4]int{9, 9, 9, 9}
		}
		if len(want) == 0 || !slices.Equal(second, want) || !slices.Equal(result(), want) {
			t.Errorf("%s: %v and %v; want %v", name, second, result(), want)
		}
		if !slices.Equal(h, handOf(0, 1, 3)) || !slices.Equal(flat, allCards()[:9]) {
			t.Errorf("%s has changed %v or %v", name, h, flat)
		}
	}
}
