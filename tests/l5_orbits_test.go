package tests

import (
	"slices"
	"testing"

	"loop.example/g01203/impl"
)

// longestOrbits are Maps with cards whose orbits have these numbers of cards, none of them more.
func longestOrbits() map[int]impl.Map {
	turn, swap := [3]int{1, 2, 0}, [3]int{1, 0, 2}
	return map[int]impl.Map{
		1:  stay(),
		2:  {Traits: [4]int{0, 1, 2, 3}, Values: [4][3]int{swap, sameValues, sameValues, swap}},
		3:  {Traits: [4]int{0, 1, 2, 3}, Values: [4][3]int{turn, sameValues, sameValues, sameValues}},
		4:  {Traits: [4]int{1, 2, 3, 0}, Values: stay().Values},
		6:  {Traits: [4]int{1, 0, 2, 3}, Values: [4][3]int{turn, sameValues, sameValues, sameValues}},
		8:  {Traits: [4]int{1, 2, 3, 0}, Values: [4][3]int{swap, sameValues, sameValues, sameValues}},
		9:  {Traits: [4]int{1, 2, 0, 3}, Values: [4][3]int{turn, sameValues, sameValues, sameValues}},
		12: {Traits: [4]int{1, 0, 3, 2}, Values: [4][3]int{turn, sameValues, swap, sameValues}},
		18: slowMap(),
	}
}

func TestFixedCards(t *testing.T) {
	without := 0
	for _, m := range everyMap() {
		want := []int{}
		for number, c := range allCards() {
			if imageByTraits(m, c) == c {
				want = append(want, number)
			}
		}
		if len(want) == 0 {
			without++
		}
		if fixed, ok := impl.FixedCards(m); !ok || !slices.Equal(fixed, want) {
			t.Fatalf("FixedCards(%v) = %v, %v; want %v", m, fixed, ok, want)
		}
	}
	if without == 0 {
		t.Error("each Map has fixed cards")
	}
	for _, m := range oddMaps() {
		if fixed, ok := impl.FixedCards(m); ok || len(fixed) != 0 {
			t.Errorf("FixedCards(%v) = %v, %v", m, fixed, ok)
		}
	}
}

func TestKnownFixedCards(t *testing.T) {
	if fixed, ok := impl.FixedCards(stay()); !ok || len(fixed) != 81 || fixed[0] != 0 || fixed[80] != 80 {
		t.Errorf("FixedCards(%v) = %v, %v", stay(), fixed, ok)
	}
	for _, c := range allCards()[1:] {
		shift, _ := impl.ShiftTo([4]int{}, c)
		if fixed, ok := impl.FixedCards(shift); !ok || len(fixed) != 0 {
			t.Errorf("FixedCards(%v) = %v, %v", shift, fixed, ok)
		}
	}
	exchange := impl.Map{Traits: [4]int{1, 0, 3, 2}, Values: stay().Values}
	if fixed, ok := impl.FixedCards(exchange); !ok || !slices.Equal(fixed, []int{0, 4, 8, 36, 40, 44, 72, 76, 80}) {
		t.Errorf("FixedCards(%v) = %v, %v", exchange, fixed, ok)
	}
}

func TestOrbits(t *testing.T) {
	for _, m := range someMaps() {
		for _, c := range allCards() {
			if orbit, ok := impl.OrbitOf(m, c); !ok || !slices.Equal(orbit, orbitByTraits(m, c)) {
				t.Errorf("OrbitOf(%v, %v) = %v, %v; want %v", m, c, orbit, ok, orbitByTraits(m, c))
			}
		}
		for _, c := range oddCards() {
			if orbit, ok := impl.OrbitOf(m, c); ok || len(orbit) != 0 {
				t.Errorf("OrbitOf(%v, %v) = %v, %v", m, c, orbit, ok)
			}
		}
	}
	for _, m := range oddMaps() {
		for _, c := range append(oddCards(), allCards()...) {
			if orbit, ok := impl.OrbitOf(m, c); ok || len(orbit) != 0 {
				t.Errorf("OrbitOf(%v, %v) = %v, %v", m, c, orbit, ok)
			}
		}
	}
}

// Orbits that were worked out beside the program.
func TestKnownOrbits(t *testing.T) {
	for _, one := range []struct {
		m    impl.Map
		c    [4]int
		want []int
	}{
		{stay(), [4]int{1, 2, 0, 2}, []int{47}},
		{slowMap(), [4]int{0, 0, 0, 2}, []int{2, 29, 32, 41, 68, 71, 80, 26, 20}},
		{slowMap(), [4]int{}, []int{0, 28, 30, 40, 66, 70, 78, 25, 18, 1, 27, 31, 39, 67, 69, 79, 24, 19}},
		{longestOrbits()[4], [4]int{0, 0, 0, 1}, []int{1, 3, 9, 27}},
		{longestOrbits()[4], [4]int{0, 1, 0, 1}, []int{10, 30}},
	} {
		orbit, ok := impl.OrbitOf(one.m, one.c)
		if !ok || !slices.Equal(orbit, one.want) {
			t.Errorf("OrbitOf(%v, %v) = %v, %v; want %v", one.m, one.c, orbit, ok, one.want)
		}
	}
}

func leastCommonMultiple(a, b int) int {
	multiple := a
	for multiple%b != 0 {
		multiple += a
	}
	return multiple
}

// checkCycles checks MapOrder and CycleCounts of a Map against its orbits and against each
// other, and returns how many cards its longest orbit has.
func checkCycles(t *testing.T, m impl.Map) int {
	t.Helper()
	want, wantOrder, longest := [19]int{}, 1, 0
	for _, c := range allCards() {
		size := len(orbitByTraits(m, c))
		want[size]++
		longest = max(longest, size)
	}
	counts, ok := impl.CycleCounts(m)
	if !ok || counts != want {
		t.Fatalf("CycleCounts(%v) = %v, %v; want %v", m, counts, ok, want)
	}
	for n, count := range counts {
		if count > 0 {
			wantOrder = leastCommonMultiple(wantOrder, n)
		}
	}
	if order, ok := impl.MapOrder(m); !ok || order != wantOrder {
		t.Fatalf("MapOrder(%v) = %d, %v; want %d", m, order, ok, wantOrder)
	}
	return longest
}

func TestOrdersAndCyclesOfAllMaps(t *testing.T) {
	longest := 0
	for _, m := range everyMap() {
		longest = max(longest, checkCycles(t, m))
	}
	if longest != 18 {
		t.Errorf("the longest orbit has %d cards", longest)
	}
	for _, m := range oddMaps() {
		if counts, ok := impl.CycleCounts(m); ok || counts != [19]int{} {
			t.Errorf("CycleCounts(%v) = %v, %v", m, counts, ok)
		}
		if order, ok := impl.MapOrder(m); ok || order != 0 {
			t.Errorf("MapOrder(%v) = %d, %v", m, order, ok)
		}
	}
}

// The order is the least number of times: fewer of them leave not all cards as they are.
func TestOrdersAreTheLeastNumbers(t *testing.T) {
	for _, m := range someMaps() {
		order, ok := impl.MapOrder(m)
		if !ok || order < 1 {
			t.Fatalf("MapOrder(%v) = %d, %v", m, order, ok)
		}
		images := allCards()
		for times := 1; times <= order; times++ {
			for i, c := range images {
				images[i] = imageByTraits(m, c)
			}
			if same := slices.Equal(images, allCards()); same != (times == order) {
				t.Errorf("MapOrder(%v) = %d; all cards come again after %d: %v", m, order, times, same)
			}
		}
	}
}

func TestKnownOrdersAndCycles(t *testing.T) {
	for longest, m := range longestOrbits() {
		if order, ok := impl.MapOrder(m); !ok || order != longest {
			t.Errorf("MapOrder(%v) = %d, %v; want %d", m, order, ok, longest)
		}
		counts, ok := impl.CycleCounts(m)
		if !ok || counts[longest] == 0 || slices.Max(append(counts[longest+1:], 0)) != 0 || counts[0] != 0 {
			t.Errorf("CycleCounts(%v) = %v, %v", m, counts, ok)
		}
		sum := 0
		for _, count := range counts {
			sum += count
		}
		fixed, _ := impl.FixedCards(m)
		if sum != 81 || counts[1] != len(fixed) {
			t.Errorf("CycleCounts(%v) = %v, %d together; %d are fixed", m, counts, sum, len(fixed))
		}
	}
	if counts, ok := impl.CycleCounts(slowMap()); !ok || counts != [19]int{9: 27, 18: 54} {
		t.Errorf("CycleCounts(%v) = %v, %v", slowMap(), counts, ok)
	}
	if counts, ok := impl.CycleCounts(stay()); !ok || counts != [19]int{1: 81} {
		t.Errorf("CycleCounts(%v) = %v, %v", stay(), counts, ok)
	}
}
