package tests

import (
	"math"
	"slices"
	"testing"

	"loop.example/g01203/impl"
)

func sameDeal(a, b impl.Deal) bool {
	return a.Seed == b.Seed && a.Next == b.Next && slices.Equal(a.Laid, b.Laid)
}

func TestLayMore(t *testing.T) {
	for _, d := range someDeals() {
		want, wantOk := impl.Deal{}, len(linesByTraits(d.Laid)) == 0 && d.Next < 81
		if wantOk {
			want = layByOnes(d, 3)
		}
		if more, ok := impl.LayMore(d); ok != wantOk || !sameDeal(more, want) {
			t.Errorf("LayMore(%v) = %v, %v; want %v, %v", d, more, ok, want, wantOk)
		}
	}
	for _, d := range oddDeals() {
		if more, ok := impl.LayMore(d); ok || !isZeroDeal(more) {
			t.Errorf("LayMore(%v) = %v, %v", d, more, ok)
		}
	}
}

func TestLayMoreAtTheEndOfThePile(t *testing.T) {
	pile := pileByExchange(1)
	laid := [][4]int{pile[5], pile[2]}
	for next, count := range map[int]int{12: 3, 77: 3, 78: 3, 79: 2, 80: 1} {
		more, ok := impl.LayMore(impl.Deal{Seed: 1, Next: next, Laid: laid})
		want := impl.Deal{Seed: 1, Next: next + count, Laid: slices.Concat(laid, pile[next:next+count])}
		if !ok || !sameDeal(more, want) {
			t.Errorf("LayMore at %d = %v, %v; want %v", next, more, ok, want)
		}
	}
	for _, d := range []impl.Deal{
		{Seed: 1, Next: 81, Laid: laid},
		{Seed: 1, Next: 81},
		{Seed: 1, Next: 81, Laid: handOf(0, 1, 2)},
		{Seed: 1, Next: 80, Laid: handOf(0, 1, 2)},
	} {
		if more, ok := impl.LayMore(d); ok || !isZeroDeal(more) {
			t.Errorf("LayMore(%v) = %v, %v", d, more, ok)
		}
	}
}

func TestTakeLineOfDeals(t *testing.T) {
	for _, d := range someDeals() {
		lines := linesByTraits(d.Laid)
		for _, line := range lines {
			taken, ok := impl.TakeLine(d, line)
			if want := takeByOnes(d, line); !ok || !sameDeal(taken, want) {
				t.Errorf("TakeLine(%v, %v) = %v, %v; want %v", d, line, taken, ok, want)
			}
			if len(lines) > 60 {
				// Of a table with so many lines, one is enough.
				break
			}
		}
	}
}

// Behind a line, cards are laid up to Spread, or as many as there are; of more cards, none is.
func TestTakeLineLaysUpToSpread(t *testing.T) {
	pile := pileByExchange(1)
	line := handOf(0, 1, 2)
	others := [][4]int{}
	for _, c := range pile[:60] {
		if !slices.Contains(line, c) {
			others = append(others, c)
		}
	}
	for _, one := range []struct{ next, others, laid int }{
		{70, 0, 11}, {69, 0, 12}, {68, 0, 12}, {70, 1, 11}, {69, 8, 4}, {69, 9, 3}, {69, 10, 2}, {69, 11, 1},
		{69, 12, 0}, {69, 13, 0}, {69, 30, 0}, {78, 9, 3}, {79, 9, 2}, {80, 9, 1}, {81, 9, 0}, {80, 12, 0}, {81, 0, 0}, {81, 40, 0},
	} {
		laid := slices.Concat(others[:one.others/2], line, others[one.others/2:one.others])
		d := impl.Deal{Seed: 1, Next: one.next, Laid: laid}
		if !impl.IsDeal(d) {
			t.Fatalf("%v is no Deal", d)
		}
		taken, ok := impl.TakeLine(d, [3]int{one.others / 2, one.others/2 + 1, one.others/2 + 2})
		want := impl.Deal{Seed: 1, Next: one.next + one.laid, Laid: slices.Concat(others[:one.others], pile[one.next:one.next+one.laid])}
		if !ok || !sameDeal(taken, want) {
			t.Errorf("TakeLine of %d others at %d = %v, %v; want %v", one.others, one.next, taken, ok, want)
		}
	}
}

// Of all places around a table, only its lines in ascending order are taken.
func TestTakeLineFailsForOtherPlaces(t *testing.T) {
	tables := []impl.Deal{
		{Seed: 1, Next: 81, Laid: handOf(8, 3, 0, 1, 2, 4)},
		{Seed: 1, Next: 81, Laid: handOf(0, 1, 3, 4, 9)},
		{Seed: 1, Next: 81, Laid: handOf(0, 1, 2)},
		{Seed: 1, Next: 81},
	}
	for _, seed := range []int{0, 1, 3} {
		tables = append(tables, layByOnes(impl.Deal{Seed: seed}, 12))
	}
	for _, d := range tables {
		lines := linesByTraits(d.Laid)
		for i := -2; i < len(d.Laid)+2; i++ {
			for j := -2; j < len(d.Laid)+2; j++ {
				for k := -2; k < len(d.Laid)+2; k++ {
					line := [3]int{i, j, k}
					taken, ok := impl.TakeLine(d, line)
					if ok != slices.Contains(lines, line) || !ok && !isZeroDeal(taken) {
						t.Fatalf("TakeLine(%v, %v) = %v, %v", d, line, taken, ok)
					}
				}
			}
		}
		for _, line := range [][3]int{{0, 1, math.MaxInt}, {math.MinInt, 0, 1}, {math.MinInt, 0, math.MaxInt}, {0, 1, 1 << 32}, {-3, -2, -1}} {
			if taken, ok := impl.TakeLine(d, line); ok || !isZeroDeal(taken) {
				t.Errorf("TakeLine(%v, %v) = %v, %v", d, line, taken, ok)
			}
		}
	}
}

func TestTakeLineFailsForOtherDeals(t *testing.T) {
	for _, d := range oddDeals() {
		for _, line := range append(linesByTraits(d.Laid), [3]int{}, [3]int{0, 1, 2}) {
			if taken, ok := impl.TakeLine(d, line); ok || !isZeroDeal(taken) {
				t.Errorf("TakeLine(%v, %v) = %v, %v", d, line, taken, ok)
			}
		}
	}
}

func TestDealSteps(t *testing.T) {
	for _, d := range someDeals() {
		lines := linesByTraits(d.Laid)
		want, wantOk := impl.Deal{}, true
		if len(lines) > 0 {
			want = takeByOnes(d, lines[0])
		} else if d.Next < 81 {
			want = layByOnes(d, 3)
		} else {
			wantOk = false
		}
		if step, ok := impl.DealStep(d); ok != wantOk || !sameDeal(step, want) {
			t.Errorf("DealStep(%v) = %v, %v; want %v, %v", d, step, ok, want, wantOk)
		}
	}
	for _, d := range oddDeals() {
		if step, ok := impl.DealStep(d); ok || !isZeroDeal(step) {
			t.Errorf("DealStep(%v) = %v, %v", d, step, ok)
		}
	}
}
