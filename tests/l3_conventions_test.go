package tests

import (
	"fmt"
	"slices"
	"testing"

	"loop.example/g01203/impl"
)

// capCalls are all functions of chapter 3, each as one that tells all of its results.
func capCalls() map[string]func([][4]int) string {
	calls := map[string]func([][4]int) string{
		"IsCap":        func(h [][4]int) string { is, ok := impl.IsCap(h); return tell(is, ok) },
		"BlockedCards": func(h [][4]int) string { blocked, ok := impl.BlockedCards(h); return tell(blocked, ok) },
		"FreeCards":    func(h [][4]int) string { free, ok := impl.FreeCards(h); return tell(free, ok) },
		"IsFullCap":    func(h [][4]int) string { full, ok := impl.IsFullCap(h); return tell(full, ok) },
		"FillCap":      func(h [][4]int) string { filled, ok := impl.FillCap(h); return tell(filled, ok) },
		"GreedyCap":    func(h [][4]int) string { greedy, ok := impl.GreedyCap(h); return tell(greedy, ok) },
		"GreatestCap":  func(h [][4]int) string { greatest, ok := impl.GreatestCap(h); return tell(greatest, ok) },
		"FewestDrops":  func(h [][4]int) string { drops, ok := impl.FewestDrops(h); return tell(drops, ok) },
		"AnchorsOf":    func(h [][4]int) string { anchors, ok := impl.AnchorsOf(h); return tell(anchors, ok) },
	}
	for _, n := range []int{-1, 0, 3, impl.MaxPool, impl.MaxPool + 1} {
		calls[fmt.Sprint("CountCaps", n)] = func(h [][4]int) string { count, ok := impl.CountCaps(h, n); return tell(count, ok) }
	}
	for _, other := range [][][4]int{nil, handOf(5, 80), handOf(0, 1, 2), handOf(1, 0), allCards()} {
		calls[fmt.Sprint("JoinCaps to", other)] = func(h [][4]int) string { joined, ok := impl.JoinCaps(h, other); return tell(joined, ok) }
		calls[fmt.Sprint("JoinCaps with", other)] = func(h [][4]int) string { joined, ok := impl.JoinCaps(other, h); return tell(joined, ok) }
	}
	for _, c := range [][4]int{{}, {1, 1, 1, 1}, {3}, {0, -1}} {
		calls[fmt.Sprint("CapLines", c)] = func(h [][4]int) string { lines, ok := impl.CapLines(h, c); return tell(lines, ok) }
	}
	return calls
}

func TestCapFunctionsReturnAndLeaveTheirArguments(t *testing.T) {
	checkHandCalls(t, capCalls())
}

// Results that are hands can be written to: neither an argument nor another result changes.
func TestCapResultsShareNoMemory(t *testing.T) {
	g, h, full := handOf(0, 1), handOf(3, 4), greatCap()
	for name, result := range map[string]func() [][4]int{
		"FillCap":               func() [][4]int { filled, _ := impl.FillCap(g); return filled },
		"FillCap of a full cap": func() [][4]int { filled, _ := impl.FillCap(full); return filled },
		"JoinCaps":              func() [][4]int { joined, _ := impl.JoinCaps(g, h); return joined },
		"JoinCaps to no cards":  func() [][4]int { joined, _ := impl.JoinCaps(g, nil); return joined },
		"JoinCaps of no cards":  func() [][4]int { joined, _ := impl.JoinCaps(nil, g); return joined },
	} {
		first, second := result(), result()
		want := slices.Clone(first)
		for i := range first {
			first[i] = [4]int{9, 9, 9, 9}
		}
		if !slices.Equal(second, want) || !slices.Equal(result(), want) {
			t.Errorf("%s: %v and %v; want %v", name, second, result(), want)
		}
		if !slices.Equal(g, handOf(0, 1)) || !slices.Equal(h, handOf(3, 4)) || !slices.Equal(full, greatCap()) {
			t.Errorf("%s has changed %v, %v or %v", name, g, h, full)
		}
	}
}

func TestCapPlacesAndNumbersShareNoMemory(t *testing.T) {
	h := handOf(1, 2, 3, 6)
	for name, result := range map[string]func() []int{
		"BlockedCards": func() []int { blocked, _ := impl.BlockedCards(h); return blocked },
		"FreeCards":    func() []int { free, _ := impl.FreeCards(h); return free },
		"GreedyCap":    func() []int { greedy, _ := impl.GreedyCap(h); return greedy },
		"GreatestCap":  func() []int { greatest, _ := impl.GreatestCap(h); return greatest },
		"AnchorsOf":    func() []int { anchors, _ := impl.AnchorsOf(h); return anchors },
	} {
		first, second := result(), result()
		want := slices.Clone(first)
		for i := range first {
			first[i] = 99
		}
		if len(want) == 0 || !slices.Equal(second, want) || !slices.Equal(result(), want) {
			t.Errorf("%s: %v and %v; want %v", name, second, result(), want)
		}
	}
}
