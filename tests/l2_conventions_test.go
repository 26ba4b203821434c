package tests

import (
	"fmt"
	"slices"
	"testing"

	"loop.example/g01203/impl"
)

// handCalls are all functions of chapter 2 that take a list of cards, each as one that tells all
// of its results.
func handCalls() map[string]func([][4]int) string {
	cards := [][4]int{{}, {0, 0, 0, 2}, {1, 1, 1, 1}, {2, 2, 2, 2}, {3}, {0, -1}}
	calls := map[string]func([][4]int) string{
		"IsHand":    func(h [][4]int) string { return tell(impl.IsHand(h)) },
		"LinesIn":   func(h [][4]int) string { lines, ok := impl.LinesIn(h); return tell(lines, ok) },
		"SumCards":  func(h [][4]int) string { sum, ok := impl.SumCards(h); return tell(sum, ok) },
		"SortCards": func(h [][4]int) string { sorted, ok := impl.SortCards(h); return tell(sorted, ok) },
		"HandText":  func(h [][4]int) string { s, ok := impl.HandText(h); return tell(s, ok) },
	}
	for i, c := range cards {
		calls[fmt.Sprint("LinesThrough", c)] = func(h [][4]int) string { n, ok := impl.LinesThrough(h, c); return tell(n, ok) }
		calls[fmt.Sprint("PutCard", c)] = func(h [][4]int) string { put, ok := impl.PutCard(h, c); return tell(put, ok) }
		calls[fmt.Sprint("DropCard", c)] = func(h [][4]int) string { less, ok := impl.DropCard(h, c); return tell(less, ok) }
		calls[fmt.Sprint("WithTrait", i)] = func(h [][4]int) string {
			places, ok := impl.WithTrait(h, i, i/2)
			return tell(places, ok)
		}
	}
	return calls
}

func TestHandFunctionsReturnAndLeaveTheirArguments(t *testing.T) {
	checkHandCalls(t, handCalls())
}

func TestCardFunctionsReturnForAllArguments(t *testing.T) {
	cards := append(oddCards(), allCards()...)
	for _, a := range cards {
		for _, b := range cards {
			third, ok := impl.ThirdCard(a, b)
			if again, fine := impl.ThirdCard(a, b); third != again || ok != fine || !ok && third != [4]int{} {
				t.Fatalf("ThirdCard(%v, %v)", a, b)
			}
			n, ok := impl.DifferIn(a, b)
			if m, fine := impl.DifferIn(a, b); n != m || ok != fine || !ok && n != 0 {
				t.Fatalf("DifferIn(%v, %v)", a, b)
			}
			for _, c := range oddCards() {
				if line, ok := impl.IsLine(a, b, c); line || ok {
					t.Fatalf("IsLine(%v, %v, %v)", a, b, c)
				}
			}
		}
	}
	for _, s := range oddTexts() {
		h, ok := impl.ParseHand(s)
		if again, fine := impl.ParseHand(s); !slices.Equal(h, again) || ok != fine || !ok && len(h) != 0 {
			t.Errorf("ParseHand(%.20q)", s)
		}
	}
}

// Results that are lists can be written to: neither the argument nor another result changes.
func TestHandResultsShareNoMemory(t *testing.T) {
	h := handOf(0, 1, 2, 40, 80)
	results := map[string]func() [][4]int{
		"PutCard at the end":     func() [][4]int { put, _ := impl.PutCard(h[:4], [4]int{2, 2, 2, 1}); return put },
		"PutCard at the start":   func() [][4]int { put, _ := impl.PutCard(h[1:], [4]int{}); return put },
		"DropCard at the end":    func() [][4]int { less, _ := impl.DropCard(h, [4]int{2, 2, 2, 2}); return less },
		"DropCard at the start":  func() [][4]int { less, _ := impl.DropCard(h, [4]int{}); return less },
		"DropCard in the middle": func() [][4]int { less, _ := impl.DropCard(h, [4]int{0, 0, 0, 2}); return less },
		"SortCards":              func() [][4]int { sorted, _ := impl.SortCards(h); return sorted },
		"ParseHand":              func() [][4]int { parsed, _ := impl.ParseHand("0000 0001"); return parsed },
	}
	for name, result := range results {
		want := slices.Clone(result())
		first, second := result(), result()
		for i := range first {
			first[i] = [4]int{9, 9, 9, 9}
		}
		_ = append(first, [4]int{9, 9, 9, 9})
		if !slices.Equal(second, want) || !slices.Equal(result(), want) || !slices.Equal(h, handOf(0, 1, 2, 40, 80)) {
			t.Errorf("%s: %v, %v and %v; want %v", name, second, result(), h, want)
		}
	}
	lines, _ := impl.LinesIn(h)
	lines[0] = [3]int{9, 9, 9}
	places, _ := impl.WithTrait(h, 0, 0)
	places[0] = 9
	again, _ := impl.LinesIn(h)
	others, _ := impl.WithTrait(h, 0, 0)
	if again[0] != [3]int{0, 1, 2} || others[0] != 0 {
		t.Error("lines or places", again, others)
	}
}
