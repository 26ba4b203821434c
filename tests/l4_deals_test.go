package tests

import (
	"math"
	"slices"
	"testing"

	"loop.example/g01203/impl"
)

// layByOnes returns the Deal behind laying up to n cards, one after the other.
func layByOnes(d impl.Deal, n int) impl.Deal {
	pile := pileByExchange(d.Seed)
	laid := slices.Clone(d.Laid)
	for ; n > 0 && d.Next < 81; n-- {
		laid = append(laid, pile[d.Next])
		d.Next++
	}
	d.Laid = laid
	return d
}

// takeByOnes returns the Deal behind taking a line.
func takeByOnes(d impl.Deal, line [3]int) impl.Deal {
	laid := slices.Clone(d.Laid)
	for i := 2; i >= 0; i-- {
		laid = slices.Delete(laid, line[i], line[i]+1)
	}
	d.Laid = laid
	for len(d.Laid) < 12 && d.Next < 81 {
		d = layByOnes(d, 1)
	}
	return d
}

// playByOnes returns all Deals of the deal of a seed, from the new one to the last one.
func playByOnes(seed int) []impl.Deal {
	d := layByOnes(impl.Deal{Seed: seed}, 12)
	deals := []impl.Deal{d}
	for {
		if lines := linesByTraits(d.Laid); len(lines) > 0 {
			d = takeByOnes(d, lines[0])
		} else if d.Next < 81 {
			d = layByOnes(d, 3)
		} else {
			return deals
		}
		deals = append(deals, d)
	}
}

// stuckAmong returns cards of a list, each one with which those before it have no line.
func stuckAmong(list [][4]int) [][4]int {
	taken := [][4]int{}
	for _, c := range list {
		if len(pairsByTraits(taken, c)) == 0 {
			taken = append(taken, c)
		}
	}
	return taken
}

// someDeals returns Deals: those of some deals, and others with each number of cards laid, with
// tables in other orders, without lines, without cards, and with all cards laid.
func someDeals() []impl.Deal {
	deals := []impl.Deal{}
	for _, seed := range []int{0, 1, 74, 92, 123, impl.MaxSeed} {
		deals = append(deals, playByOnes(seed)...)
	}
	for _, seed := range []int{0, 5, impl.MaxSeed} {
		pile := pileByExchange(seed)
		for next := range 82 {
			drawn := slices.Clone(pile[:next])
			stuck := stuckAmong(drawn)
			slices.Reverse(drawn)
			deals = append(deals, impl.Deal{Seed: seed, Next: next, Laid: stuck}, impl.Deal{Seed: seed, Next: next})
			if next > 9 {
				deals = append(deals, impl.Deal{Seed: seed, Next: next, Laid: drawn[next/3 : next/3+7]})
			}
			if next < 30 || next > 77 {
				deals = append(deals, impl.Deal{Seed: seed, Next: next, Laid: drawn})
			}
		}
	}
	return deals
}

// oddDeals returns Deals that are not valid.
func oddDeals() []impl.Deal {
	deals := []impl.Deal{}
	for _, seed := range oddSeeds() {
		deals = append(deals, impl.Deal{Seed: seed}, impl.Deal{Seed: seed, Next: 81}, impl.Deal{Seed: seed, Next: 81, Laid: handOf(0, 1, 2)})
	}
	for _, next := range []int{-1, 82, -81, 83, 1 << 32, math.MaxInt, math.MinInt} {
		deals = append(deals, impl.Deal{Next: next}, impl.Deal{Seed: 1, Next: next, Laid: handOf(0, 1, 2)})
	}
	for _, seed := range []int{0, 1, impl.MaxSeed} {
		pile := pileByExchange(seed)
		for _, next := range []int{0, 1, 11, 12, 13, 50, 79, 80} {
			// The next card of the pile has not been laid, nor has its last one.
			deals = append(deals,
				impl.Deal{Seed: seed, Next: next, Laid: pile[next : next+1]},
				impl.Deal{Seed: seed, Next: next, Laid: pile[:next+1]},
				impl.Deal{Seed: seed, Next: next, Laid: append(slices.Clone(pile[:next/2]), pile[80])},
				impl.Deal{Seed: seed, Next: next, Laid: pile})
		}
		for _, next := range []int{1, 2, 12, 81} {
			drawn := pile[:next]
			deals = append(deals,
				impl.Deal{Seed: seed, Next: next, Laid: [][4]int{pile[0], pile[0]}},
				impl.Deal{Seed: seed, Next: next, Laid: append(slices.Clone(drawn), pile[next-1])},
				impl.Deal{Seed: seed, Next: next, Laid: append(slices.Clone(drawn), pile[0])},
				impl.Deal{Seed: seed, Next: next, Laid: slices.Repeat(drawn, 2)})
		}
	}
	for _, c := range oddCards() {
		deals = append(deals, impl.Deal{Next: 81, Laid: [][4]int{c}}, impl.Deal{Next: 81, Laid: [][4]int{{}, {1}, c}})
	}
	return deals
}

func TestDealsAreValid(t *testing.T) {
	for _, d := range someDeals() {
		if !impl.IsDeal(d) {
			t.Errorf("%v is no Deal", d)
		}
	}
	for _, d := range oddDeals() {
		if impl.IsDeal(d) {
			t.Errorf("%v is a Deal", d)
		}
	}
	if !impl.IsDeal(impl.Deal{}) {
		t.Error("nothing laid from the pile of 0 is no Deal")
	}
}

// Of two cards, just those are a table that are different and have been laid.
func TestDealsOfTwoCards(t *testing.T) {
	for _, seed := range []int{0, 3} {
		pile := pileByExchange(seed)
		for _, next := range []int{0, 1, 2, 40, 80, 81} {
			for i, a := range pile {
				for j, b := range pile {
					want := i != j && i < next && j < next
					if got := impl.IsDeal(impl.Deal{Seed: seed, Next: next, Laid: [][4]int{a, b}}); got != want {
						t.Fatalf("%v and %v of the first %d of %d: %v", a, b, next, seed, got)
					}
				}
			}
		}
	}
}

func TestNewDeals(t *testing.T) {
	for _, seed := range someSeeds() {
		d, ok := impl.NewDeal(seed)
		if !ok || d.Seed != seed || d.Next != 12 || !slices.Equal(d.Laid, pileByExchange(seed)[:12]) {
			t.Errorf("NewDeal(%d) = %v, %v", seed, d, ok)
		}
	}
	if d, ok := impl.NewDeal(0); !ok || len(d.Laid) != 12 || d.Laid[5] != [4]int{} {
		t.Errorf("NewDeal(0) = %v, %v", d, ok)
	}
	for _, seed := range oddSeeds() {
		if d, ok := impl.NewDeal(seed); ok || !isZeroDeal(d) {
			t.Errorf("NewDeal(%d) = %v, %v", seed, d, ok)
		}
	}
}

func isZeroDeal(d impl.Deal) bool { return d.Seed == 0 && d.Next == 0 && len(d.Laid) == 0 }

func TestLinesOfDeals(t *testing.T) {
	for _, d := range someDeals() {
		want := linesByTraits(d.Laid)
		lines, ok := impl.DealLines(d)
		if !ok || !slices.Equal(lines, want) {
			t.Errorf("DealLines(%v) = %v, %v; want %v", d, lines, ok, want)
		}
		if stuck, ok := impl.IsStuck(d); !ok || stuck != (len(want) == 0) {
			t.Errorf("IsStuck(%v) = %v, %v", d, stuck, ok)
		}
		if over, ok := impl.IsOverDeal(d); !ok || over != (len(want) == 0 && d.Next == 81) {
			t.Errorf("IsOverDeal(%v) = %v, %v", d, over, ok)
		}
	}
	for _, d := range oddDeals() {
		if lines, ok := impl.DealLines(d); ok || len(lines) != 0 {
			t.Errorf("DealLines(%v) = %v, %v", d, lines, ok)
		}
		if stuck, ok := impl.IsStuck(d); ok || stuck {
			t.Errorf("IsStuck(%v) = %v, %v", d, stuck, ok)
		}
		if over, ok := impl.IsOverDeal(d); ok || over {
			t.Errorf("IsOverDeal(%v) = %v, %v", d, over, ok)
		}
	}
}

func TestTablesInAnyOrder(t *testing.T) {
	for _, one := range []struct {
		laid [][4]int
		want [][3]int
	}{
		{nil, nil},
		{handOf(2, 0, 1), [][3]int{{0, 1, 2}}},
		{handOf(80, 6, 0, 7, 40), [][3]int{{0, 2, 4}}},
		{handOf(8, 3, 0, 1, 2, 4), [][3]int{{0, 1, 3}, {0, 2, 5}, {2, 3, 4}}},
		{handOf(0, 1, 3, 4, 9), nil},
	} {
		d := impl.Deal{Seed: 1, Next: 81, Laid: one.laid}
		if lines, ok := impl.DealLines(d); !ok || !slices.Equal(lines, one.want) {
			t.Errorf("DealLines(%v) = %v, %v; want %v", d, lines, ok, one.want)
		}
	}
	// All cards on the table have 1080 lines.
	all := impl.Deal{Seed: 1, Next: 81, Laid: pileByExchange(1)}
	if lines, ok := impl.DealLines(all); !ok || len(lines) != 1080 || !slices.Equal(lines, linesByTraits(all.Laid)) {
		t.Errorf("%d lines of all cards, %v", len(lines), ok)
	}
}

// A Deal is over only if it is stuck and the pile is at its end.
func TestDealsThatAreOver(t *testing.T) {
	pile := pileByExchange(0)
	for _, one := range []struct {
		d           impl.Deal
		stuck, over bool
	}{
		{impl.Deal{}, true, false},
		{impl.Deal{Next: 81}, true, true},
		{impl.Deal{Next: 80}, true, false},
		{impl.Deal{Next: 81, Laid: handOf(0, 1)}, true, true},
		{impl.Deal{Next: 81, Laid: handOf(0, 1, 2)}, false, false},
		{impl.Deal{Next: 81, Laid: handOf(80, 41)}, true, true},
		{impl.Deal{Next: 81, Laid: greatCap()}, true, true},
		{impl.Deal{Next: 80, Laid: pile[78:80]}, true, false},
		{impl.Deal{Next: 81, Laid: pile}, false, false},
	} {
		if stuck, ok := impl.IsStuck(one.d); !ok || stuck != one.stuck {
			t.Errorf("IsStuck(%v) = %v, %v", one.d, stuck, ok)
		}
		if over, ok := impl.IsOverDeal(one.d); !ok || over != one.over {
			t.Errorf("IsOverDeal(%v) = %v, %v", one.d, over, ok)
		}
	}
}
