package tests

import (
	"math"
	"testing"

	"loop.example/g01203/impl"
)

// isFraction reports whether f is a count divided by another one, with a denominator of at least
// 1 and no common divisor.
func isFraction(f [2]int, count, all int) bool {
	if f[1] < 1 || f[0]*all != count*f[1] {
		return false
	}
	for divisor := 2; divisor <= f[1]; divisor++ {
		if f[0]%divisor == 0 && f[1]%divisor == 0 {
			return false
		}
	}
	return true
}

// checkFraction checks that a call has returned a count divided by the number of all choices, or
// has failed if there are none; what tells the call.
func checkFraction(t *testing.T, f [2]int, ok bool, count, all int, what ...any) {
	t.Helper()
	if all == 0 {
		checkNoFraction(t, f, ok, what...)
		return
	}
	if !ok || !isFraction(f, count, all) {
		t.Errorf("%s = %v, %v; want %d / %d", tell(what...), f, ok, count, all)
	}
}

// checkNoFraction checks that a call has failed.
func checkNoFraction(t *testing.T, f [2]int, ok bool, what ...any) {
	t.Helper()
	if ok || f != [2]int{} {
		t.Errorf("%s = %v, %v; want 0, 0, false", tell(what...), f, ok)
	}
}

// choicesOf returns how many choices of n of so many cards there are.
func choicesOf(cards, n int) int {
	if n == 0 {
		return 1
	}
	if cards < n {
		return 0
	}
	return choicesOf(cards-1, n-1) * cards / n
}

// chanceHands returns hands of each size: with many lines, with few and without lines.
func chanceHands() [][][4]int { return append(lineHands(), someCaps()...) }

// greatNumbers are numbers that no function takes as a number of cards, a kind or a place.
func greatNumbers() []int {
	return []int{28, 81, -27, 256, 1 << 32, -1 << 32, 1<<32 + 1, 1<<32 + 2, math.MaxInt, math.MaxInt - 1, math.MinInt, math.MinInt + 2}
}

// poolLists returns the hands for which caps are searched for, of those that there are.
func poolLists(hands [][][4]int) [][][4]int {
	pools := [][][4]int{}
	for _, h := range hands {
		if len(h) <= impl.MaxPool {
			pools = append(pools, h)
		}
	}
	return pools
}
