package tests

import (
	"fmt"
	"slices"
	"testing"

	"loop.example/g01203/impl"
)

func TestPlaysOfSeeds(t *testing.T) {
	for _, seed := range someSeeds() {
		deals := playByOnes(seed)
		wantSizes, wantTaken, wantMore := []int{}, 0, 0
		for i, d := range deals {
			wantSizes = append(wantSizes, len(d.Laid))
			if i == len(deals)-1 {
				break
			}
			if len(linesByTraits(d.Laid)) > 0 {
				wantTaken++
			} else {
				wantMore++
			}
		}
		wantLast := slices.Clone(deals[len(deals)-1].Laid)
		slices.SortFunc(wantLast, func(a, b [4]int) int { return slices.Compare(a[:], b[:]) })
		taken, more, last, ok := impl.PlayDeal(seed)
		if !ok || taken != wantTaken || more != wantMore || !slices.Equal(last, wantLast) {
			t.Errorf("PlayDeal(%d) = %d, %d, %v, %v; want %d, %d, %v", seed, taken, more, last, ok, wantTaken, wantMore, wantLast)
		}
		if sizes, ok := impl.DealSizes(seed); !ok || !slices.Equal(sizes, wantSizes) {
			t.Errorf("DealSizes(%d) = %v, %v; want %v", seed, sizes, ok, wantSizes)
		}
	}
	for _, seed := range oddSeeds() {
		if taken, more, last, ok := impl.PlayDeal(seed); ok || taken != 0 || more != 0 || len(last) != 0 {
			t.Errorf("PlayDeal(%d) = %d, %d, %v, %v", seed, taken, more, last, ok)
		}
		if sizes, ok := impl.DealSizes(seed); ok || len(sizes) != 0 {
			t.Errorf("DealSizes(%d) = %v, %v", seed, sizes, ok)
		}
	}
}

// Plays that were worked out beside the program.
func TestKnownPlays(t *testing.T) {
	for _, one := range []struct {
		seed, taken, more int
		last              [][4]int
	}{
		{0, 25, 2, handOf(12, 30, 41, 42, 47, 68)},
		{1, 24, 0, handOf(9, 16, 17, 22, 23, 27, 35, 57, 73)},
		{impl.MaxSeed, 24, 0, handOf(3, 7, 17, 18, 40, 67, 69, 70, 75)},
	} {
		taken, more, last, ok := impl.PlayDeal(one.seed)
		if !ok || taken != one.taken || more != one.more || !slices.Equal(last, one.last) {
			t.Errorf("PlayDeal(%d) = %d, %d, %v, %v; want %d, %d, %v", one.seed, taken, more, last, ok, one.taken, one.more, one.last)
		}
	}
	want := slices.Concat(slices.Repeat([]int{12}, 16), []int{15, 12, 15, 12, 12, 12, 12, 12, 12, 12, 9, 6})
	if sizes, ok := impl.DealSizes(0); !ok || !slices.Equal(sizes, want) {
		t.Errorf("DealSizes(0) = %v, %v; want %v", sizes, ok, want)
	}
	// This deal ends with all lines taken.
	if taken, _, last, ok := impl.PlayDeal(92); !ok || taken != 27 || len(last) != 0 {
		t.Errorf("PlayDeal(92) = %d, %v, %v", taken, last, ok)
	}
}

func sumOf(cards [][4]int) [4]int {
	sum := [4]int{}
	for _, c := range cards {
		for trait := range 4 {
			sum[trait] = (sum[trait] + c[trait]) % 3
		}
	}
	return sum
}

// restOf returns all cards of a Deal that lie there or have not been laid.
func restOf(d impl.Deal) [][4]int { return slices.Concat(d.Laid, pileByExchange(d.Seed)[d.Next:]) }

func TestDealsOfPlaysHaveTheSumZero(t *testing.T) {
	seeds := someSeeds()
	for seed := 11; seed <= impl.MaxSeed; seed += 211 {
		seeds = append(seeds, seed)
	}
	for _, seed := range seeds {
		sizes := []int{}
		d, ok := impl.NewDeal(seed)
		last := d
		for ok {
			if sum := sumOf(restOf(d)); sum != [4]int{} || !impl.IsDeal(d) || len(d.Laid) > 21 {
				t.Errorf("the sum of %v is %v", d, sum)
			}
			sizes = append(sizes, len(d.Laid))
			last = d
			d, ok = impl.DealStep(d)
		}
		if over, ok := impl.IsOverDeal(last); !ok || !over || len(last.Laid) == 3 {
			t.Errorf("the deal of %d ends with %v: %v, %v", seed, last, over, ok)
		}
		if got, ok := impl.DealSizes(seed); !ok || !slices.Equal(got, sizes) {
			t.Errorf("DealSizes(%d) = %v, %v; want %v", seed, got, ok, sizes)
		}
	}
}

// The sum stays as it is wherever a line is taken, and laying more cards leaves it too.
func TestStepsKeepTheSum(t *testing.T) {
	for _, d := range someDeals() {
		lines, _ := impl.DealLines(d)
		if len(lines) > 60 {
			lines = lines[:1]
		}
		for _, line := range lines {
			if taken, ok := impl.TakeLine(d, line); !ok || sumOf(restOf(taken)) != sumOf(restOf(d)) {
				t.Errorf("TakeLine(%v, %v) = %v, %v", d, line, taken, ok)
			}
		}
		if more, ok := impl.LayMore(d); ok && sumOf(restOf(more)) != sumOf(restOf(d)) {
			t.Errorf("LayMore(%v) = %v", d, more)
		}
	}
}

// checkEndOfPlay checks what holds for the play of each seed.
func checkEndOfPlay(t *testing.T, seed int) {
	taken, more, last, ok := impl.PlayDeal(seed)
	if !ok || 3*taken+len(last) != 81 || len(last) == 3 || sumOf(last) != [4]int{} || more < 0 {
		t.Fatalf("PlayDeal(%d) = %d, %d, %v, %v", seed, taken, more, last, ok)
	}
	if free, ok := impl.IsCap(last); !ok || !free {
		t.Fatalf("PlayDeal(%d) ends with %v: %v, %v", seed, last, free, ok)
	}
	sizes, ok := impl.DealSizes(seed)
	if !ok || len(sizes) != taken+more+1 || sizes[0] != 12 || sizes[taken+more] != len(last) || slices.Max(sizes) > 21 {
		t.Fatalf("DealSizes(%d) = %v, %v behind %d, %d, %v", seed, sizes, ok, taken, more, last)
	}
}

// There are few enough seeds to look at each of them, in parts that run side by side.
func TestEndsOfAllPlays(t *testing.T) {
	const part = 4096
	for start := 0; start <= impl.MaxSeed; start += part {
		t.Run(fmt.Sprint("from ", start), func(t *testing.T) {
			t.Parallel()
			for seed := start; seed < start+part; seed++ {
				checkEndOfPlay(t, seed)
			}
		})
	}
}
