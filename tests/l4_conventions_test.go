package tests

import (
	"fmt"
	"slices"
	"testing"

	"loop.example/g01203/impl"
)

// dealCalls are all functions of chapter 4 that take a Deal, each as one that tells all of its
// results.
func dealCalls() map[string]func(impl.Deal) string {
	calls := map[string]func(impl.Deal) string{
		"IsDeal":     func(d impl.Deal) string { return tell(impl.IsDeal(d)) },
		"DealLines":  func(d impl.Deal) string { lines, ok := impl.DealLines(d); return tell(lines, ok) },
		"IsStuck":    func(d impl.Deal) string { stuck, ok := impl.IsStuck(d); return tell(stuck, ok) },
		"IsOverDeal": func(d impl.Deal) string { over, ok := impl.IsOverDeal(d); return tell(over, ok) },
		"LayMore":    func(d impl.Deal) string { more, ok := impl.LayMore(d); return tell(more, ok) },
		"DealStep":   func(d impl.Deal) string { step, ok := impl.DealStep(d); return tell(step, ok) },
	}
	for _, line := range [][3]int{{0, 1, 2}, {0, 2, 5}, {2, 1, 0}, {-1, 0, 1}, {0, 1, 81}} {
		calls[fmt.Sprint("TakeLine", line)] = func(d impl.Deal) string { taken, ok := impl.TakeLine(d, line); return tell(taken, ok) }
	}
	calls["TakeLine of the first line"] = func(d impl.Deal) string {
		for _, line := range linesByTraits(d.Laid[:min(len(d.Laid), 21)]) {
			taken, ok := impl.TakeLine(d, line)
			return tell(taken, ok)
		}
		return ""
	}
	return calls
}

// seedCalls are all functions of chapter 4 that take a seed.
func seedCalls() map[string]func(int) string {
	return map[string]func(int) string{
		"NextSeed":  func(seed int) string { next, ok := impl.NextSeed(seed); return tell(next, ok) },
		"PileOf":    func(seed int) string { pile, ok := impl.PileOf(seed); return tell(pile, ok) },
		"NewDeal":   func(seed int) string { d, ok := impl.NewDeal(seed); return tell(d, ok) },
		"DealSizes": func(seed int) string { sizes, ok := impl.DealSizes(seed); return tell(sizes, ok) },
		"CardPlace": func(seed int) string { place, ok := impl.CardPlace(seed, [4]int{1, 2, 0, 1}); return tell(place, ok) },
		"PlayDeal": func(seed int) string {
			taken, more, last, ok := impl.PlayDeal(seed)
			return tell(taken, more, last, ok)
		},
	}
}

func TestSeedFunctionsReturnTheSame(t *testing.T) {
	for name, call := range seedCalls() {
		for _, seed := range append(someSeeds(), oddSeeds()...) {
			if first, again := call(seed), call(seed); first != again {
				t.Errorf("%s(%d): %s and %s", name, seed, first, again)
			}
		}
	}
}

func TestDealFunctionsReturnAndLeaveTheirArguments(t *testing.T) {
	deals := append(someDeals(), oddDeals()...)
	for _, laid := range [][][4]int{slices.Repeat(allCards(), 500), slices.Repeat(oddCards(), 500), slices.Repeat(handOf(7), 50000)} {
		deals = append(deals, impl.Deal{Laid: laid}, impl.Deal{Seed: 1, Next: 81, Laid: laid}, impl.Deal{Seed: -1, Next: -1, Laid: laid})
	}
	for name, call := range dealCalls() {
		for _, d := range deals {
			// Behind the table there is memory that a careless append would write to.
			backing := append(slices.Clone(d.Laid), slices.Repeat([][4]int{{7, 7, 7, 7}}, 12)...)
			before := slices.Clone(backing)
			d.Laid = backing[:len(d.Laid)]
			first := call(d)
			if again := call(d); again != first {
				t.Errorf("%s: %s and %s", name, first, again)
			}
			if !slices.Equal(backing, before) {
				t.Errorf("%s has changed %v to %v", name, before, backing)
			}
		}
	}
}

// Results can be written to, and behind them: neither an argument nor another result changes.
func TestDealResultsShareNoMemory(t *testing.T) {
	open := impl.Deal{Seed: 1, Next: 80, Laid: handOf(0, 1, 3, 4)}
	lined := impl.Deal{Seed: 1, Next: 80, Laid: handOf(0, 1, 2, 3, 4)}
	last := impl.Deal{Seed: 1, Next: 81, Laid: handOf(0, 1, 2, 3, 4)}
	taken := [3]int{0, 1, 2}
	for name, result := range map[string]func() [][4]int{
		"PileOf":               func() [][4]int { pile, _ := impl.PileOf(1); return pile },
		"NewDeal":              func() [][4]int { d, _ := impl.NewDeal(1); return d.Laid },
		"LayMore":              func() [][4]int { d, _ := impl.LayMore(open); return d.Laid },
		"TakeLine":             func() [][4]int { d, _ := impl.TakeLine(lined, taken); return d.Laid },
		"TakeLine at the end":  func() [][4]int { d, _ := impl.TakeLine(last, taken); return d.Laid },
		"DealStep, laying":     func() [][4]int { d, _ := impl.DealStep(open); return d.Laid },
		"DealStep with a line": func() [][4]int { d, _ := impl.DealStep(lined); return d.Laid },
		"DealStep at the end":  func() [][4]int { d, _ := impl.DealStep(last); return d.Laid },
		"PlayDeal":             func() [][4]int { _, _, hand, _ := impl.PlayDeal(1); return hand },
	} {
		first, second := result(), result()
		want := slices.Clone(first)
		first = first[:cap(first)]
		for i := range first {
			first[i] = [4]int{9, 9, 9, 9}
		}
		if len(want) == 0 || !slices.Equal(second, want) || !slices.Equal(result(), want) {
			t.Errorf("%s: %v and %v; want %v", name, second, result(), want)
		}
	}
	for d, numbers := range map[*impl.Deal][]int{&open: {0, 1, 3, 4}, &lined: {0, 1, 2, 3, 4}, &last: {0, 1, 2, 3, 4}} {
		if !slices.Equal(d.Laid, handOf(numbers...)) {
			t.Errorf("%v has been changed; it was %v", d, numbers)
		}
	}
}

func TestDealLinesAndSizesShareNoMemory(t *testing.T) {
	d := impl.Deal{Seed: 1, Next: 81, Laid: handOf(0, 1, 2, 3, 6)}
	lines, _ := impl.DealLines(d)
	lines[0] = [3]int{9, 9, 9}
	if again, ok := impl.DealLines(d); !ok || again[0] != [3]int{0, 1, 2} {
		t.Errorf("DealLines(%v) = %v, %v", d, again, ok)
	}
	sizes, _ := impl.DealSizes(1)
	sizes[0] = 99
	if again, ok := impl.DealSizes(1); !ok || again[0] != 12 {
		t.Errorf("DealSizes(1) = %v, %v", again, ok)
	}
}
