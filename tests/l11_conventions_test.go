package tests

import (
	"fmt"
	"math"
	"slices"
	"testing"

	"loop.example/g01203/impl"
)

// shadowCalls are all functions of chapter 11 that take a list of cards, each as one that tells
// all of its results.
func shadowCalls() map[string]func([][4]int) string {
	calls := map[string]func([][4]int) string{
		"LeastMask": func(h [][4]int) string { mask, ok := impl.LeastMask(h); return tell(mask, ok) },
		"ReadMessage": func(h [][4]int) string {
			list, wrong, ok := impl.ReadMessage(h)
			return tell(list, wrong, ok)
		},
		"CodeDistance of the same": func(h [][4]int) string { distance, ok := impl.CodeDistance(h, h); return tell(distance, ok) },
	}
	for _, mask := range []int{math.MinInt, -1, 0, 1, 2, 4, 6, 8, 11, 15, 16, math.MaxInt} {
		calls[fmt.Sprint("ShadowHand ", mask)] = func(h [][4]int) string {
			shadows, ok := impl.ShadowHand(h, mask)
			return tell(shadows, ok)
		}
		calls[fmt.Sprint("ShadowLines ", mask)] = func(h [][4]int) string {
			lines, ok := impl.ShadowLines(h, mask)
			return tell(lines, ok)
		}
		for _, c := range [][4]int{{}, {0, 1, 0, 0}, {-1, 0, 0, 0}, {0, 0, 0, 3}} {
			calls[fmt.Sprint("CountBehind ", mask, c)] = func(h [][4]int) string {
				count, ok := impl.CountBehind(h, mask, c)
				return tell(count, ok)
			}
		}
	}
	for _, sum := range [][4]int{{}, {2, 0, 1, 2}, {math.MinInt, 0, 0, 0}, {0, 0, 0, math.MaxInt}} {
		calls[fmt.Sprint("HiddenCard ", sum)] = func(h [][4]int) string {
			hidden, ok := impl.HiddenCard(h, sum)
			return tell(hidden, ok)
		}
	}
	for _, other := range [][][4]int{nil, handOf(80), slices.Repeat(handOf(7), impl.MaxMessage), allCards()} {
		calls[fmt.Sprint("CodeDistance to ", len(other))] = func(h [][4]int) string {
			to, ok := impl.CodeDistance(h, other)
			from, fine := impl.CodeDistance(other, h)
			return tell(to, ok, from, fine)
		}
	}
	return calls
}

func TestShadowFunctionsReturnAndLeaveTheirArguments(t *testing.T) {
	checkHandCalls(t, shadowCalls())
}

// The functions of lists that need not be hands leave these as they are, whatever their order is.
func TestFunctionsOfListsLeaveTheirArguments(t *testing.T) {
	for _, list := range append(someLists(), oddLists()...) {
		other := slices.Clone(list)
		slices.Reverse(other)
		first, second := withSpare(list, [4]int{7}), withSpare(other, [4]int{8})
		numbers, wrong, fine := impl.ReadMessage(first)
		distance, ok := impl.CodeDistance(first, second)
		again, count, same := impl.ReadMessage(first)
		if !slices.Equal(numbers, again) || wrong != count || fine != same {
			t.Errorf("ReadMessage(%v): %v, %d, %v and %v, %d, %v", list, numbers, wrong, fine, again, count, same)
		}
		if far, still := impl.CodeDistance(first, second); far != distance || ok != still {
			t.Errorf("CodeDistance(%v, %v): %d, %v and %d, %v", list, other, distance, ok, far, still)
		}
		if !slices.Equal(first, list) || first[:len(list)+1][len(list)] != [4]int{7} {
			t.Error("a call has changed", list, "to", first[:len(list)+1])
		}
		if !slices.Equal(second, other) || second[:len(list)+1][len(list)] != [4]int{8} {
			t.Error("a call has changed", other, "to", second[:len(list)+1])
		}
	}
}

func TestSendMessageReturnsAndLeavesItsArgument(t *testing.T) {
	lists := append(someMessages(), nil, slices.Repeat([]int{3}, 5000))
	for _, number := range greatNumbers() {
		lists = append(lists, []int{number}, []int{8, number, 0})
	}
	for _, list := range lists {
		spare := withSpare(list, 77)
		first, ok := impl.SendMessage(spare)
		again, same := impl.SendMessage(spare)
		if !slices.Equal(first, again) || ok != same {
			t.Errorf("SendMessage(%v): %v, %v and %v, %v", list, first, ok, again, same)
		}
		if !slices.Equal(spare, list) || spare[:len(list)+1][len(list)] != 77 {
			t.Error("SendMessage has changed", list, "to", spare[:len(list)+1])
		}
	}
}

func TestShadowResultsAreApart(t *testing.T) {
	h := allCards()[:9]
	checkApart(t, "ShadowHand", func() ([][4]int, bool) { return impl.ShadowHand(h, 4) }, [4]int{7})
	checkApart(t, "ShadowHand", func() ([][4]int, bool) { return impl.ShadowHand(h, 15) }, [4]int{7})
	checkApart(t, "Codewords", func() ([][4]int, bool) { return impl.Codewords(), true }, [4]int{7})
	checkApart(t, "SendMessage", func() ([][4]int, bool) { return impl.SendMessage([]int{1, 8, 1}) }, [4]int{7})
	checkApart(t, "ReadMessage", func() ([]int, bool) {
		list, _, ok := impl.ReadMessage(h)
		return list, ok
	}, 77)
	words := sortedWords()
	checkApart(t, "ReadMessage", func() ([]int, bool) {
		list, _, ok := impl.ReadMessage(words)
		return list, ok
	}, 77)
	if !slices.Equal(h, allCards()[:9]) || !slices.Equal(words, sortedWords()) {
		t.Error("the cards have changed to", h, words)
	}
}

// Nothing stays from call to call: what is told of a hand is the same behind calls for others.
func TestShadowFunctionsReturnTheSameAgain(t *testing.T) {
	hands := [][][4]int{handOf(0, 1, 2), greatCap(), nil, allCards()[54:], sortedWords(), lowCap(), handOf(80)}
	for name, call := range shadowCalls() {
		first := []string{}
		for _, h := range hands {
			first = append(first, call(h))
		}
		for range 10 {
			for i, h := range hands {
				if again := call(h); again != first[i] {
					t.Fatalf("%s(%v): %s and %s", name, h, first[i], again)
				}
			}
		}
	}
}

func TestShadowsAgreeWithEachOther(t *testing.T) {
	for _, h := range shadowHands() {
		least, _ := impl.LeastMask(h)
		for mask := 1; mask <= 15; mask++ {
			shadows, _ := impl.ShadowHand(h, mask)
			sum := 0
			for _, shadow := range shadows {
				count, ok := impl.CountBehind(h, mask, shadow)
				if !ok || count < 1 {
					t.Fatalf("CountBehind(%v, %d, %v) = %d, %v", h, mask, shadow, count, ok)
				}
				sum += count
			}
			if sum != len(h) {
				t.Fatalf("CountBehind of %v by %d tells %d cards", h, mask, sum)
			}
			if mask == least && len(shadows) != len(h) {
				t.Fatalf("LeastMask(%v) = %d, but the shadows are %v", h, least, shadows)
			}
		}
	}
}
