package tests

import (
	"fmt"
	"slices"
	"testing"

	"loop.example/g01203/impl"
)

// mapHandCalls are all functions of chapter 5 that take a list of cards, each as one that tells
// all of its results.
func mapHandCalls() map[string]func([][4]int) string {
	calls := map[string]func([][4]int) string{
		"FirstLook":          func(h [][4]int) string { look, ok := impl.FirstLook(h); return tell(look, ok) },
		"AreAlike to itself": func(h [][4]int) string { alike, ok := impl.AreAlike(h, h); return tell(alike, ok) },
		"FirstMap to itself": func(h [][4]int) string { m, ok := impl.FirstMap(h, h); return tell(m, ok) },
	}
	for _, m := range []impl.Map{stay(), slowMap(), {}, oddMaps()[3]} {
		calls[fmt.Sprint("MapHand", m)] = func(h [][4]int) string { images, ok := impl.MapHand(m, h); return tell(images, ok) }
	}
	for _, other := range [][][4]int{nil, handOf(80), handOf(0, 40, 80), handOf(0, 1, 2, 3, 4, 5), handOf(1, 0), allCards()} {
		calls[fmt.Sprint("AreAlike of", other)] = func(h [][4]int) string { alike, ok := impl.AreAlike(other, h); return tell(alike, ok) }
		calls[fmt.Sprint("AreAlike and", other)] = func(h [][4]int) string { alike, ok := impl.AreAlike(h, other); return tell(alike, ok) }
		calls[fmt.Sprint("FirstMap from", other)] = func(h [][4]int) string { m, ok := impl.FirstMap(other, h); return tell(m, ok) }
		calls[fmt.Sprint("FirstMap to", other)] = func(h [][4]int) string { m, ok := impl.FirstMap(h, other); return tell(m, ok) }
	}
	return calls
}

func TestMapFunctionsReturnAndLeaveTheirArguments(t *testing.T) {
	checkHandCalls(t, mapHandCalls())
}

// mapCalls are all functions of chapter 5 that take a Map, each as one that tells all of its
// results.
func mapCalls() map[string]func(impl.Map) string {
	calls := map[string]func(impl.Map) string{
		"IsMap":       func(m impl.Map) string { return tell(impl.IsMap(m)) },
		"MapBack":     func(m impl.Map) string { back, ok := impl.MapBack(m); return tell(back, ok) },
		"FixedCards":  func(m impl.Map) string { fixed, ok := impl.FixedCards(m); return tell(fixed, ok) },
		"MapOrder":    func(m impl.Map) string { order, ok := impl.MapOrder(m); return tell(order, ok) },
		"CycleCounts": func(m impl.Map) string { counts, ok := impl.CycleCounts(m); return tell(counts, ok) },
	}
	for _, c := range [][4]int{{}, {2, 1, 0, 2}, {3}, {0, -1}} {
		calls[fmt.Sprint("MapCard", c)] = func(m impl.Map) string { image, ok := impl.MapCard(m, c); return tell(image, ok) }
		calls[fmt.Sprint("OrbitOf", c)] = func(m impl.Map) string { orbit, ok := impl.OrbitOf(m, c); return tell(orbit, ok) }
	}
	for _, other := range []impl.Map{stay(), slowMap(), {}} {
		calls[fmt.Sprint("MapBehind", other)] = func(m impl.Map) string { both, ok := impl.MapBehind(m, other); return tell(both, ok) }
		calls[fmt.Sprint("MapBehind to", other)] = func(m impl.Map) string { both, ok := impl.MapBehind(other, m); return tell(both, ok) }
	}
	return calls
}

func TestMapFunctionsReturnTheSame(t *testing.T) {
	for name, call := range mapCalls() {
		for _, m := range append(someMaps(), oddMaps()...) {
			if first, again := call(m), call(m); first != again {
				t.Errorf("%s of %v: %s and %s", name, m, first, again)
			}
		}
	}
}

// Results that are hands can be written to: neither an argument nor another result changes.
func TestImagesAndLooksShareNoMemory(t *testing.T) {
	h := handOf(0, 1, 3)
	for name, result := range map[string]func() [][4]int{
		"MapHand":                func() [][4]int { images, _ := impl.MapHand(slowMap(), h); return images },
		"MapHand by stay":        func() [][4]int { images, _ := impl.MapHand(stay(), h); return images },
		"FirstLook":              func() [][4]int { look, _ := impl.FirstLook(handOf(7, 40, 80)); return look },
		"FirstLook of the least": func() [][4]int { look, _ := impl.FirstLook(h); return look },
	} {
		first, second := result(), result()
		want := slices.Clone(first)
		first = first[:cap(first)]
		for i := range first {
			first[i] = [4]int{9, 9, 9, 9}
		}
		if len(want) != 3 || !slices.Equal(second, want) || !slices.Equal(result(), want) || !slices.Equal(h, handOf(0, 1, 3)) {
			t.Errorf("%s: %v, %v and %v; want %v", name, second, result(), h, want)
		}
	}
}

func TestOrbitsAndFixedCardsShareNoMemory(t *testing.T) {
	for name, result := range map[string]func() []int{
		"FixedCards": func() []int { fixed, _ := impl.FixedCards(stay()); return fixed },
		"OrbitOf":    func() []int { orbit, _ := impl.OrbitOf(slowMap(), [4]int{1, 1, 1, 1}); return orbit },
	} {
		first, second := result(), result()
		want := slices.Clone(first)
		for i := range first {
			first[i] = 99
		}
		if len(want) == 0 || !slices.Equal(second, want) || !slices.Equal(result(), want) {
			t.Errorf("%s: %v and %v; want %v", name, second, result(), want)
		}
	}
}
