package tests

import (
	"fmt"
	"math"
	"slices"
	"testing"

	"loop.example/g01203/impl"
)

// textsOver returns all texts of at most size bytes of the alphabet, the shorter ones first.
func textsOver(alphabet string, size int) []string {
	texts := []string{""}
	start := 0
	for range size {
		end := len(texts)
		for _, text := range texts[start:end] {
			for i := range len(alphabet) {
				texts = append(texts, text+alphabet[i:i+1])
			}
		}
		start = end
	}
	return texts
}

// everyByte returns all 256 bytes in ascending order.
func everyByte() string {
	all := make([]byte, 256)
	for i := range all {
		all[i] = byte(i)
	}
	return string(all)
}

// allCards returns the 81 cards in ascending order.
func allCards() [][4]int {
	cards := [][4]int{}
	for a := range 3 {
		for b := range 3 {
			for c := range 3 {
				for d := range 3 {
					cards = append(cards, [4]int{a, b, c, d})
				}
			}
		}
	}
	return cards
}

// oddCards returns cards that are not valid: in each trait, values outside 0..2.
func oddCards() [][4]int {
	cards := [][4]int{}
	for trait := range 4 {
		for _, value := range []int{-1, 3, 4, -3, 256, 1 << 32, math.MaxInt, math.MinInt} {
			c := [4]int{0, 1, 2, 1}
			c[trait] = value
			cards = append(cards, c)
		}
	}
	return append(cards, [4]int{-1, -1, -1, -1}, [4]int{3, 3, 3, 3})
}

// handOf returns the cards with these numbers; they are a hand if the numbers are ascending.
func handOf(numbers ...int) [][4]int {
	h := [][4]int{}
	for _, number := range numbers {
		h = append(h, allCards()[number])
	}
	return h
}

// someHands returns hands of each size, among them that without cards and several of MaxHand
// cards; they are the same ones in each run.
func someHands() [][][4]int {
	hands := [][][4]int{{}}
	state := uint32(1)
	for size := 1; size <= impl.MaxHand; size++ {
		for range 6 {
			numbers := make([]int, 81)
			for i := range numbers {
				numbers[i] = i
			}
			for i := range size {
				state = state*1664525 + 1013904223
				j := i + int(state>>16)%(81-i)
				numbers[i], numbers[j] = numbers[j], numbers[i]
			}
			slices.Sort(numbers[:size])
			hands = append(hands, handOf(numbers[:size]...))
		}
	}
	// All cards of one value in a trait are the hands with the most lines.
	hands = append(hands, allCards()[:27], allCards()[27:54], allCards()[54:])
	return hands
}

// oddHands returns lists of cards that are no hands.
func oddHands() [][][4]int {
	lists := [][][4]int{
		handOf(1, 0), handOf(5, 5), handOf(0, 1, 1), handOf(0, 2, 1), handOf(80, 79, 78), handOf(0, 40, 40, 80),
		allCards()[:28], allCards()[53:], allCards(),
	}
	for _, c := range oddCards() {
		lists = append(lists, [][4]int{c}, [][4]int{{}, c}, [][4]int{c, {2, 2, 2, 2}})
	}
	return lists
}

// isLineByTraits reports whether three cards are a line, trait by trait as the document says it.
func isLineByTraits(a, b, c [4]int) bool {
	if a == b || a == c || b == c {
		return false
	}
	for trait := range 4 {
		same := a[trait] == b[trait] && b[trait] == c[trait]
		different := a[trait] != b[trait] && b[trait] != c[trait] && a[trait] != c[trait]
		if !same && !different {
			return false
		}
	}
	return true
}

// blockedByTraits returns the numbers of all cards that are not in a hand and make a line with
// two of its cards.
func blockedByTraits(h [][4]int) []int {
	numbers := []int{}
	for number, c := range allCards() {
		if !slices.Contains(h, c) && len(pairsByTraits(h, c)) > 0 {
			numbers = append(numbers, number)
		}
	}
	return numbers
}

// pairsByTraits returns the places of all pairs of cards of a hand with which a card makes a line.
func pairsByTraits(h [][4]int, c [4]int) [][2]int {
	pairs := [][2]int{}
	for i := range h {
		for j := i + 1; j < len(h); j++ {
			if isLineByTraits(h[i], h[j], c) {
				pairs = append(pairs, [2]int{i, j})
			}
		}
	}
	return pairs
}

// greatCap returns the cap of 20 cards that are not 0000 but solve an equation: two of them that
// are each other's negative make a line with 0000, and no three of them make one.
func greatCap() [][4]int {
	h := [][4]int{}
	for _, c := range allCards()[1:] {
		if (c[0]*c[1]+c[2]*c[2]+c[3]*c[3])%3 == 0 {
			h = append(h, c)
		}
	}
	return h
}

// lowCap returns the full cap of the 16 cards that have no trait 2.
func lowCap() [][4]int {
	h := [][4]int{}
	for _, c := range allCards() {
		if !slices.Contains(c[:], 2) {
			h = append(h, c)
		}
	}
	return h
}

// someCaps returns caps of each size that there is among the greedy parts of some hands, and
// parts of two full caps.
func someCaps() [][][4]int {
	caps := [][][4]int{}
	for _, h := range someHands() {
		taken := [][4]int{}
		for _, c := range h {
			if len(pairsByTraits(taken, c)) == 0 {
				taken = append(taken, c)
			}
		}
		caps = append(caps, taken)
	}
	for _, full := range [][][4]int{lowCap(), greatCap()} {
		for size := range full {
			caps = append(caps, full[:size], full[size:])
		}
	}
	return caps
}

// tell returns all results of a call as one text.
func tell(results ...any) string { return fmt.Sprint(results...) }

// checkHandCalls checks that calls which take a list of cards return the same for the same list,
// be it a hand or not, and leave it and the memory behind it as they are.
func checkHandCalls(t *testing.T, calls map[string]func([][4]int) string) {
	lists := append(someHands(), oddHands()...)
	lists = append(lists, nil, slices.Repeat(allCards(), 500), slices.Repeat(oddCards(), 500))
	for name, call := range calls {
		for _, list := range lists {
			// Behind the list there is memory that a careless append would write to.
			backing := append(slices.Clone(list), [4]int{7, 7, 7, 7}, [4]int{8, 8, 8, 8})
			before := slices.Clone(backing)
			first := call(backing[:len(list)])
			if again := call(backing[:len(list)]); again != first {
				t.Errorf("%s: %s and %s", name, first, again)
			}
			if !slices.Equal(backing, before) {
				t.Errorf("%s has changed %v to %v", name, before, backing)
			}
		}
	}
}
