package tests

import (
	"slices"
	"testing"

	"loop.example/g01203/impl"
)

// kindsByTraits returns the places of all lines of each kind of a hand.
func kindsByTraits(h [][4]int) [5][][3]int {
	kinds := [5][][3]int{}
	for _, line := range linesByTraits(h) {
		kind := differByTraits(h[line[0]], h[line[1]])
		kinds[kind] = append(kinds[kind], line)
	}
	return kinds
}

// checkKinds checks what CountKinds and LinesOfKind tell of a hand.
func checkKinds(t *testing.T, h [][4]int, want [5][][3]int) {
	t.Helper()
	counts, ok := impl.CountKinds(h)
	if !ok || counts[0] != 0 {
		t.Errorf("CountKinds(%v) = %v, %v", h, counts, ok)
	}
	for kind := 1; kind <= 4; kind++ {
		if counts[kind] != len(want[kind]) {
			t.Errorf("CountKinds(%v) = %v; of the kind %d there are %d", h, counts, kind, len(want[kind]))
		}
		if lines, ok := impl.LinesOfKind(h, kind); !ok || !slices.Equal(lines, want[kind]) {
			t.Errorf("LinesOfKind(%v, %d) = %v, %v; want %v", h, kind, lines, ok, want[kind])
		}
	}
}

func TestKindsOfHands(t *testing.T) {
	several := 0
	for _, h := range append(otherHands(), someHands()...) {
		kinds := kindsByTraits(h)
		checkKinds(t, h, kinds)
		if len(kinds[1]) > 1 && len(kinds[2]) > 1 && len(kinds[3]) > 1 && len(kinds[4]) > 1 {
			several++
		}
	}
	if several < 20 {
		t.Error("only", several, "hands with several lines of each kind")
	}
}

func TestKindsOfSomeHands(t *testing.T) {
	for _, one := range []struct {
		h    [][4]int
		want [5][][3]int
	}{
		{nil, [5][][3]int{}},
		{handOf(80), [5][][3]int{}},
		{handOf(0, 1), [5][][3]int{}},
		{handOf(0, 1, 3), [5][][3]int{}},
		{greatCap(), [5][][3]int{}},
		{squareHand(), [5][][3]int{}},
		// Lines of one kind alone.
		{handOf(0, 1, 2), [5][][3]int{1: {{0, 1, 2}}}},
		{handOf(0, 1, 2, 3, 6), [5][][3]int{1: {{0, 1, 2}, {0, 3, 4}}}},
		{handOf(0, 4, 8), [5][][3]int{2: {{0, 1, 2}}}},
		{handOf(0, 4, 5, 7, 8), [5][][3]int{2: {{0, 1, 4}, {0, 2, 3}}}},
		{handOf(0, 13, 26), [5][][3]int{3: {{0, 1, 2}}}},
		{handOf(0, 13, 14, 25, 26), [5][][3]int{3: {{0, 1, 4}, {0, 2, 3}}}},
		{handOf(0, 40, 80), [5][][3]int{4: {{0, 1, 2}}}},
		{handOf(0, 40, 41, 79, 80), [5][][3]int{4: {{0, 1, 4}, {0, 2, 3}}}},
		// A line of each kind.
		{handOf(0, 1, 2, 4, 8, 13, 26, 40, 80), [5][][3]int{1: {{0, 1, 2}}, 2: {{0, 3, 4}}, 3: {{0, 5, 6}}, 4: {{0, 7, 8}}}},
	} {
		if kinds := kindsByTraits(one.h); tell(kinds) != tell(one.want) {
			t.Errorf("%v has the lines %v, not %v", one.h, kinds, one.want)
		}
		checkKinds(t, one.h, one.want)
	}
}

func TestAllLinesOfAKind(t *testing.T) {
	kinds := kindsByTraits(allCards())
	for kind, want := range map[int]int{1: 108, 2: 324, 3: 432, 4: 216} {
		if count, ok := impl.AllOfKind(kind); !ok || count != want || count != len(kinds[kind]) {
			t.Errorf("AllOfKind(%d) = %d, %v; there are %d", kind, count, ok, len(kinds[kind]))
		}
	}
}

func TestOddKinds(t *testing.T) {
	for _, kind := range append(greatNumbers(), -4, -2, -1, 0, 5, 6, 8) {
		if count, ok := impl.AllOfKind(kind); ok || count != 0 {
			t.Errorf("AllOfKind(%d) = %d, %v", kind, count, ok)
		}
		for _, h := range append(oddHands(), nil, handOf(0, 1, 2), allCards()[:27]) {
			if lines, ok := impl.LinesOfKind(h, kind); ok || len(lines) != 0 {
				t.Errorf("LinesOfKind(%v, %d) = %v, %v", h, kind, lines, ok)
			}
		}
	}
}

func TestKindFunctionsFail(t *testing.T) {
	for _, h := range oddHands() {
		if counts, ok := impl.CountKinds(h); ok || counts != [5]int{} {
			t.Errorf("CountKinds(%v) = %v, %v", h, counts, ok)
		}
		for kind := 1; kind <= 4; kind++ {
			if lines, ok := impl.LinesOfKind(h, kind); ok || len(lines) != 0 {
				t.Errorf("LinesOfKind(%v, %d) = %v, %v", h, kind, lines, ok)
			}
		}
		if near, ok := impl.NearLines(h); ok || len(near) != 0 {
			t.Errorf("NearLines(%v) = %v, %v", h, near, ok)
		}
	}
}

// wrongTraits returns in how many traits three cards are neither the same nor all different.
func wrongTraits(a, b, c [4]int) int {
	count := 0
	for trait := range 4 {
		same := a[trait] == b[trait] && b[trait] == c[trait]
		different := a[trait] != b[trait] && b[trait] != c[trait] && a[trait] != c[trait]
		if !same && !different {
			count++
		}
	}
	return count
}

// nearByTraits returns the places of all three cards of a hand that are wrong in just one trait.
func nearByTraits(h [][4]int) [][3]int {
	near := [][3]int{}
	for i := range h {
		for j := i + 1; j < len(h); j++ {
			for k := j + 1; k < len(h); k++ {
				if wrongTraits(h[i], h[j], h[k]) == 1 {
					near = append(near, [3]int{i, j, k})
				}
			}
		}
	}
	return near
}

// The Guarantee: no three cards are a line and nearly one.
func TestNearLines(t *testing.T) {
	both := 0
	for _, h := range append(otherHands(), someHands()...) {
		want := nearByTraits(h)
		near, ok := impl.NearLines(h)
		if !ok || !slices.Equal(near, want) {
			t.Fatalf("NearLines(%v) = %v, %v; want %v", h, near, ok, want)
		}
		lines, _ := impl.LinesIn(h)
		for _, line := range lines {
			if slices.Contains(near, line) {
				t.Fatalf("NearLines(%v) and LinesIn have %v", h, line)
			}
		}
		if len(near) > 0 && len(lines) > 0 {
			both++
		}
	}
	if both < 100 {
		t.Error("only", both, "hands with lines and others that are nearly lines")
	}
}

func TestNearLinesOfSomeHands(t *testing.T) {
	for _, one := range []struct {
		h    [][4]int
		want [][3]int
	}{
		{nil, nil},
		{handOf(5), nil},
		{handOf(0, 1), nil},
		// Lines of each kind.
		{handOf(0, 1, 2), nil},
		{handOf(0, 4, 8), nil},
		{handOf(0, 13, 26), nil},
		{handOf(0, 40, 80), nil},
		// Wrong in each one of the traits alone, where the others are all different or the same.
		{handOf(0, 40, 78), [][3]int{{0, 1, 2}}},
		{handOf(0, 40, 79), [][3]int{{0, 1, 2}}},
		{handOf(0, 40, 77), [][3]int{{0, 1, 2}}},
		{handOf(0, 40, 71), [][3]int{{0, 1, 2}}},
		{handOf(0, 40, 53), [][3]int{{0, 1, 2}}},
		{handOf(0, 1, 5), [][3]int{{0, 1, 2}}},
		{handOf(0, 3, 7), [][3]int{{0, 1, 2}}},
		{handOf(0, 3, 8), [][3]int{{0, 1, 2}}},
		// Wrong in two traits, in three and in all.
		{handOf(0, 1, 3), nil},
		{handOf(0, 1, 12), nil},
		{handOf(0, 1, 39), nil},
		// Beside a line.
		{handOf(0, 1, 2, 3), [][3]int{{1, 2, 3}}},
		{handOf(0, 1, 2, 5), [][3]int{{0, 1, 3}}},
		{handOf(0, 13, 25, 26), [][3]int{{0, 1, 2}}},
	} {
		if want := nearByTraits(one.h); !slices.Equal(one.want, want) {
			t.Errorf("%v has %v, not %v", one.h, want, one.want)
		}
		if near, ok := impl.NearLines(one.h); !ok || !slices.Equal(near, one.want) {
			t.Errorf("NearLines(%v) = %v, %v; want %v", one.h, near, ok, one.want)
		}
	}
}
