package tests

import (
	"fmt"
	"math"
	"slices"
	"testing"

	"loop.example/g01203/impl"
)

// partingCalls are all functions of chapter 7 that take a list of cards, each as one that tells
// all of its results.
func partingCalls() map[string]func([][4]int) string {
	calls := map[string]func([][4]int) string{
		"LineCounts":     func(h [][4]int) string { counts, ok := impl.LineCounts(h); return tell(counts, ok) },
		"OpenPairs":      func(h [][4]int) string { open, ok := impl.OpenPairs(h); return tell(open, ok) },
		"CountCrossings": func(h [][4]int) string { crossings, ok := impl.CountCrossings(h); return tell(crossings, ok) },
		"MostDisjoint":   func(h [][4]int) string { most, ok := impl.MostDisjoint(h); return tell(most, ok) },
		"FirstPicking":   func(h [][4]int) string { first, ok := impl.FirstPicking(h); return tell(first, ok) },
		"CountPartings":  func(h [][4]int) string { partings, ok := impl.CountPartings(h); return tell(partings, ok) },
		"GreedyPicking":  func(h [][4]int) string { greedy, ok := impl.GreedyPicking(h); return tell(greedy, ok) },
	}
	for _, n := range []int{math.MinInt, -1, 0, 1, 5, 6, 26, 27, math.MaxInt} {
		calls[fmt.Sprint("LinesAt", n)] = func(h [][4]int) string { at, ok := impl.LinesAt(h, n); return tell(at, ok) }
		calls[fmt.Sprint("CountPickings", n)] = func(h [][4]int) string { count, ok := impl.CountPickings(h, n); return tell(count, ok) }
	}
	for _, list := range oddAndOtherLists() {
		calls[fmt.Sprint("IsPicking of ", list)] = func(h [][4]int) string { is, ok := impl.IsPicking(h, list); return tell(is, ok) }
		calls[fmt.Sprint("LeftCards of ", list)] = func(h [][4]int) string { left, ok := impl.LeftCards(h, list); return tell(left, ok) }
	}
	return calls
}

// oddAndOtherLists returns lists of lines, some of which are pickings of many hands.
func oddAndOtherLists() [][][3]int {
	return [][][3]int{
		nil, {{0, 1, 2}}, {{0, 1, 2}, {3, 4, 5}}, {{3, 4, 5}, {0, 1, 2}}, {{0, 1, 2}, {0, 1, 2}}, {{2, 1, 0}},
		{{-1, 0, 1}}, {{25, 26, 27}}, {{math.MinInt, 0, math.MaxInt}}, slices.Repeat([][3]int{{0, 0, 0}}, 30),
	}
}

func TestPartingFunctionsReturnAndLeaveTheirArguments(t *testing.T) {
	checkHandCalls(t, partingCalls())
}

// Lists of lines stay as they are, and so does the memory behind them.
func TestPickingFunctionsLeaveTheirLists(t *testing.T) {
	for _, h := range append(lineHands(), oddHands()...) {
		for _, list := range append(oddAndOtherLists(), greedyByCards(h), linesByTraits(h)) {
			backing := append(slices.Clone(list), [3]int{7, 8, 9}, [3]int{5, 6, 7})
			before := slices.Clone(backing)
			is, ok := impl.IsPicking(h, backing[:len(list)])
			left, fine := impl.LeftCards(h, backing[:len(list)])
			if same, good := impl.IsPicking(h, backing[:len(list)]); same != is || good != ok {
				t.Errorf("IsPicking(%v, %v): %v, %v and %v, %v", h, list, is, ok, same, good)
			}
			if same, good := impl.LeftCards(h, backing[:len(list)]); !slices.Equal(same, left) || good != fine {
				t.Errorf("LeftCards(%v, %v): %v, %v and %v, %v", h, list, left, fine, same, good)
			}
			if !slices.Equal(backing, before) {
				t.Errorf("%v has become %v", before, backing)
			}
		}
	}
}

func TestDeckPartingReturnsTheSame(t *testing.T) {
	for _, c := range append(allCards(), oddCards()...) {
		first, ok := impl.DeckParting(c)
		again, fine := impl.DeckParting(c)
		if !slices.Equal(first, again) || ok != fine {
			t.Errorf("DeckParting(%v): %v, %v and %v, %v", c, first, ok, again, fine)
		}
	}
}

// Results that are lists of lines can be written to: no other result changes.
func TestListsOfLinesShareNoMemory(t *testing.T) {
	h := allCards()[:impl.MaxParting]
	for name, result := range map[string]func() [][3]int{
		"LinesAt":       func() [][3]int { at, _ := impl.LinesAt(h, 3); return at },
		"FirstPicking":  func() [][3]int { first, _ := impl.FirstPicking(h); return first },
		"GreedyPicking": func() [][3]int { greedy, _ := impl.GreedyPicking(h); return greedy },
		"DeckParting":   func() [][3]int { lines, _ := impl.DeckParting([4]int{0, 1, 2, 0}); return lines },
	} {
		first, second := result(), result()
		want := slices.Clone(first)
		first = first[:cap(first)]
		for i := range first {
			first[i] = [3]int{99, 99, 99}
		}
		if len(want) == 0 || !slices.Equal(second, want) || !slices.Equal(result(), want) {
			t.Errorf("%s: %v and %v; want %v", name, second, result(), want)
		}
	}
}

func TestLeftCardsAndCountsShareNoMemory(t *testing.T) {
	h := handOf(0, 1, 2, 40, 41)
	for _, picking := range [][][3]int{nil, {{0, 1, 2}}} {
		first, _ := impl.LeftCards(h, picking)
		second, _ := impl.LeftCards(h, picking)
		want := slices.Clone(first)
		for i := range first {
			first[i] = [4]int{9, 9, 9, 9}
		}
		if len(want) == 0 || !slices.Equal(second, want) || !slices.Equal(h, handOf(0, 1, 2, 40, 41)) {
			t.Errorf("LeftCards of %v: %v and %v; want %v", picking, second, h, want)
		}
	}
	first, _ := impl.LineCounts(h)
	second, _ := impl.LineCounts(h)
	first[0] = 99
	if third, _ := impl.LineCounts(h); !slices.Equal(second, []int{1, 1, 1, 0, 0}) || !slices.Equal(third, second) {
		t.Error("LineCounts", second, third)
	}
}
