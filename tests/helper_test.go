package tests

import (
	"math"
	"slices"

	"loop.example/g01203/impl"
)

// textsOver returns all texts of at most size bytes of the alphabet, the shorter ones first.
func textsOver(alphabet string, size int) []string {
	texts := []string{""}
	start := 0
	for range size {
		end := len(texts)
		for _, text := range texts[start:end] {
			for i := range len(alphabet) {
				texts = append(texts, text+alphabet[i:i+1])
			}
		}
		start = end
	}
	return texts
}

// everyByte returns all 256 bytes in ascending order.
func everyByte() string {
	all := make([]byte, 256)
	for i := range all {
		all[i] = byte(i)
	}
	return string(all)
}

// allCards returns the 81 cards in ascending order.
func allCards() [][4]int {
	cards := [][4]int{}
	for a := range 3 {
		for b := range 3 {
			for c := range 3 {
				for d := range 3 {
					cards = append(cards, [4]int{a, b, c, d})
				}
			}
		}
	}
	return cards
}

// oddCards returns cards that are not valid: in each trait, values outside 0..2.
func oddCards() [][4]int {
	cards := [][4]int{}
	for trait := range 4 {
		for _, value := range []int{-1, 3, 4, -3, 256, 1 << 32, math.MaxInt, math.MinInt} {
			c := [4]int{0, 1, 2, 1}
			c[trait] = value
			cards = append(cards, c)
		}
	}
	return append(cards, [4]int{-1, -1, -1, -1}, [4]int{3, 3, 3, 3})
}

// handOf returns the hand of the cards with these numbers, which must be in ascending order.
func handOf(numbers ...int) [][4]int {
	h := [][4]int{}
	for _, number := range numbers {
		h = append(h, allCards()[number])
	}
	return h
}

// someHands returns hands of each size, among them that without cards and several of MaxHand
// cards; they are the same ones in each run.
func someHands() [][][4]int {
	hands := [][][4]int{{}}
	state := uint32(1)
	for size := 1; size <= impl.MaxHand; size++ {
		for range 6 {
			numbers := make([]int, 81)
			for i := range numbers {
				numbers[i] = i
			}
			for i := range size {
				state = state*1664525 + 1013904223
				j := i + int(state>>16)%(81-i)
				numbers[i], numbers[j] = numbers[j], numbers[i]
			}
			slices.Sort(numbers[:size])
			hands = append(hands, handOf(numbers[:size]...))
		}
	}
	// All cards of one value in a trait are the hands with the most lines.
	hands = append(hands, allCards()[:27], allCards()[27:54], allCards()[54:])
	return hands
}

// oddHands returns lists of cards that are no hands.
func oddHands() [][][4]int {
	lists := [][][4]int{
		handOf(1, 0), handOf(5, 5), handOf(0, 1, 1), handOf(0, 2, 1), handOf(80, 79, 78), handOf(0, 40, 40, 80),
		allCards()[:28], allCards()[53:], allCards(),
	}
	for _, c := range oddCards() {
		lists = append(lists, [][4]int{c}, [][4]int{{}, c}, [][4]int{c, {2, 2, 2, 2}})
	}
	return lists
}

// isLineByTraits reports whether three cards are a line, trait by trait as the document says it.
func isLineByTraits(a, b, c [4]int) bool {
	if a == b || a == c || b == c {
		return false
	}
	for trait := range 4 {
		same := a[trait] == b[trait] && b[trait] == c[trait]
		different := a[trait] != b[trait] && b[trait] != c[trait] && a[trait] != c[trait]
		if !same && !different {
			return false
		}
	}
	return true
}
