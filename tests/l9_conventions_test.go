package tests

import (
	"fmt"
	"math"
	"testing"

	"loop.example/g01203/impl"
)

// chanceCalls are all functions of chapter 9 that take a hand, each as one that tells all of its
// results.
func chanceCalls() map[string]func([][4]int) string {
	calls := map[string]func([][4]int) string{
		"ChanceLine":    func(h [][4]int) string { chance, ok := impl.ChanceLine(h); return tell(chance, ok) },
		"ChanceBlocked": func(h [][4]int) string { chance, ok := impl.ChanceBlocked(h); return tell(chance, ok) },
		"ChanceStays":   func(h [][4]int) string { chance, ok := impl.ChanceStays(h); return tell(chance, ok) },
		"MeanDiffer":    func(h [][4]int) string { mean, ok := impl.MeanDiffer(h); return tell(mean, ok) },
		"BestThird": func(h [][4]int) string {
			number, count, ok := impl.BestThird(h)
			return tell(number, count, ok)
		},
	}
	for _, n := range []int{math.MinInt, -1, 0, 1, 2, 3, 8, impl.MaxPool, impl.MaxPool + 1, math.MaxInt} {
		calls[fmt.Sprint("MeanAfter ", n)] = func(h [][4]int) string { mean, ok := impl.MeanAfter(h, n); return tell(mean, ok) }
		calls[fmt.Sprint("ChanceCap ", n)] = func(h [][4]int) string { chance, ok := impl.ChanceCap(h, n); return tell(chance, ok) }
		for _, trait := range []int{math.MinInt, -1, 0, 3, 4, math.MaxInt} {
			calls[fmt.Sprint("ChanceTrait ", trait, n)] = func(h [][4]int) string {
				chance, ok := impl.ChanceTrait(h, trait, n)
				return tell(chance, ok)
			}
		}
	}
	return calls
}

func TestChanceFunctionsReturnAndLeaveTheirArguments(t *testing.T) {
	checkHandCalls(t, chanceCalls())
}

func TestChanceFunctionsOfNumbersReturn(t *testing.T) {
	for _, n := range append(greatNumbers(), -1, 0, 1, 4, 5, 27) {
		for name, call := range map[string]func(int) string{
			"ChanceKind":   func(n int) string { chance, ok := impl.ChanceKind(n); return tell(chance, ok) },
			"MeanLines":    func(n int) string { mean, ok := impl.MeanLines(n); return tell(mean, ok) },
			"ChanceNoLine": func(n int) string { chance, ok := impl.ChanceNoLine(n); return tell(chance, ok) },
		} {
			if first, again := call(n), call(n); first != again {
				t.Errorf("%s(%d): %s and %s", name, n, first, again)
			}
		}
	}
}

// checkChance checks that a call that has not failed has returned a chance of at most 1.
func checkChance(t *testing.T, chance [2]int, ok bool, what ...any) {
	t.Helper()
	if ok && (chance[0] < 0 || chance[0] > chance[1] || chance[1] < 1) {
		t.Errorf("%s = %v", tell(what...), chance)
	}
}

func TestChancesAreAtMost1(t *testing.T) {
	for n := -1; n <= 28; n++ {
		kind, ok := impl.ChanceKind(n)
		checkChance(t, kind, ok, "ChanceKind", n)
		none, ok := impl.ChanceNoLine(n)
		checkChance(t, none, ok, "ChanceNoLine", n)
	}
	for _, h := range chanceHands() {
		line, ok := impl.ChanceLine(h)
		checkChance(t, line, ok, "ChanceLine", h)
		blocked, ok := impl.ChanceBlocked(h)
		checkChance(t, blocked, ok, "ChanceBlocked", h)
		stays, ok := impl.ChanceStays(h)
		checkChance(t, stays, ok, "ChanceStays", h)
		for n := range 4 {
			none, ok := impl.ChanceCap(h, n)
			checkChance(t, none, ok, "ChanceCap", h, n)
			same, ok := impl.ChanceTrait(h, 3, n)
			checkChance(t, same, ok, "ChanceTrait", h, 3, n)
		}
	}
}

func TestChancesOfAllKindsAre1(t *testing.T) {
	sum, all := 0, 1
	for k := 1; k <= 4; k++ {
		chance, ok := impl.ChanceKind(k)
		if !ok {
			t.Fatal("ChanceKind fails for", k)
		}
		sum, all = sum*chance[1]+chance[0]*all, all*chance[1]
	}
	if sum != all {
		t.Errorf("ChanceKind of all kinds is %d / %d", sum, all)
	}
}

func TestMeanAfterNoCardIsTheNumberOfLines(t *testing.T) {
	for _, h := range chanceHands() {
		lines, _ := impl.LinesIn(h)
		if mean, ok := impl.MeanAfter(h, 0); !ok || mean != [2]int{len(lines), 1} {
			t.Errorf("MeanAfter(%v, 0) = %v, %v; want %d / 1", h, mean, ok, len(lines))
		}
	}
}

func TestThreeCardsAreACapOrALine(t *testing.T) {
	for _, h := range poolLists(chanceHands()) {
		line, ok := impl.ChanceLine(h)
		three, other := impl.ChanceCap(h, 3)
		if ok != other || ok != (len(h) >= 3) {
			t.Errorf("%v: ChanceLine returns %v, ChanceCap %v", h, ok, other)
		}
		if ok && (line[1] != three[1] || line[0]+three[0] != line[1]) {
			t.Errorf("%v: ChanceLine %v, ChanceCap %v", h, line, three)
		}
	}
}
