package tests

import (
	"slices"

	"loop.example/g01203/impl"
)

// keptTraits tells for each mask which traits it keeps; no number below 1 is a mask.
func keptTraits() [16][]int {
	return [16][]int{
		1: {0}, 2: {1}, 3: {0, 1},
		4: {2}, 5: {0, 2}, 6: {1, 2}, 7: {0, 1, 2},
		8: {3}, 9: {0, 3}, 10: {1, 3}, 11: {0, 1, 3},
		12: {2, 3}, 13: {0, 2, 3}, 14: {1, 2, 3}, 15: {0, 1, 2, 3},
	}
}

// oddMasks are numbers that are no masks.
func oddMasks() []int {
	return append(greatNumbers(), -16, -15, -2, -1, 0, 16, 17, 31, 32)
}

// shadowByTraits returns the shadow of a card by a mask.
func shadowByTraits(c [4]int, mask int) [4]int {
	shadow := [4]int{}
	for _, trait := range keptTraits()[mask] {
		shadow[trait] = c[trait]
	}
	return shadow
}

// shadowsByTraits returns the shadows of all cards of a hand, in its order.
func shadowsByTraits(h [][4]int, mask int) [][4]int {
	shadows := [][4]int{}
	for _, c := range h {
		shadows = append(shadows, shadowByTraits(c, mask))
	}
	return shadows
}

// areSame reports whether all of these cards are the same.
func areSame(cards ...[4]int) bool {
	return !slices.ContainsFunc(cards, func(c [4]int) bool { return c != cards[0] })
}

// leastByTraits returns the first mask, those with fewer traits first, and then by number, by
// which all shadows of a hand are different.
func leastByTraits(h [][4]int) int {
	for _, mask := range []int{1, 2, 4, 8, 3, 5, 6, 9, 10, 12, 7, 11, 13, 14} {
		if len(joinedHand(shadowsByTraits(h, mask))) == len(h) {
			return mask
		}
	}
	return 15
}

// shadowHands returns hands of each size whose cards have many shadows in common, and others.
func shadowHands() [][][4]int {
	hands := otherHands()
	for mask, traits := range keptTraits() {
		if mask == 0 || mask == 15 {
			continue
		}
		// All cards that are shadows by the mask, and all those that have the same shadow.
		shadows := joinedHand(shadowsByTraits(allCards(), mask))
		same := slices.DeleteFunc(allCards(), func(c [4]int) bool {
			return slices.ContainsFunc(traits, func(trait int) bool { return c[trait] != 1 })
		})
		hands = append(hands, shadows, same, partOf(shadows, 3, mask), partOf(same, 2, mask), partOf(same, 4, mask))
	}
	return hands
}

// maskHand returns a hand whose shadows are all different only by masks that keep all traits that
// this one keeps: each other card differs from the first one in just one of these traits.
func maskHand(mask int) [][4]int {
	h := handOf(0)
	for _, trait := range keptTraits()[mask] {
		c := [4]int{}
		c[trait] = 1
		h = append(h, c)
	}
	return joinedHand(h)
}

// sortedWords are the nine codewords in ascending order, and wordsByNumber those as which the
// numbers 0..8 are sent.
func sortedWords() [][4]int {
	return [][4]int{
		{0, 0, 0, 0}, {0, 1, 2, 1}, {0, 2, 1, 2},
		{1, 0, 2, 2}, {1, 1, 1, 0}, {1, 2, 0, 1},
		{2, 0, 1, 1}, {2, 1, 0, 2}, {2, 2, 2, 0},
	}
}

func wordsByNumber() [][4]int {
	return [][4]int{
		{0, 0, 0, 0}, {0, 1, 2, 1}, {0, 2, 1, 2},
		{1, 1, 1, 0}, {1, 2, 0, 1}, {1, 0, 2, 2},
		{2, 2, 2, 0}, {2, 0, 1, 1}, {2, 1, 0, 2},
	}
}

// nearestByTraits returns the place in wordsByNumber of the only codeword that differs from a card
// in at most one trait, and this trait, or -1.
func nearestByTraits(c [4]int) (int, int) {
	number, differs, found := 0, -1, 0
	for at, word := range wordsByNumber() {
		if differByTraits(c, word) > 1 {
			continue
		}
		number, found = at, found+1
		for trait := range 4 {
			if c[trait] != word[trait] {
				differs = trait
			}
		}
	}
	if found != 1 {
		panic("not one nearest codeword")
	}
	return number, differs
}

// changesOf returns the eight cards that differ from a card in just one trait.
func changesOf(c [4]int) [][4]int {
	changes := [][4]int{}
	for trait := range 4 {
		for step := 1; step <= 2; step++ {
			change := c
			change[trait] = (c[trait] + step) % 3
			changes = append(changes, change)
		}
	}
	return changes
}

// someMessages returns messages of each length: of the same number, of all numbers in turn, and of
// mixed ones.
func someMessages() [][]int {
	messages := [][]int{}
	for size := range impl.MaxMessage + 1 {
		for start := range 9 {
			same, turn, mixed := make([]int, size), make([]int, size), make([]int, size)
			for place := range size {
				same[place] = start
				turn[place] = (start + place) % 9
				mixed[place] = (start + 5*place*place + 7*place*size) % 9
			}
			messages = append(messages, same, turn, mixed)
		}
	}
	return messages
}

// someLists returns lists of cards of each length, most of them no hands: the same card again and
// again, cards in descending and in mixed order.
func someLists() [][][4]int {
	lists := [][][4]int{}
	for size := range impl.MaxMessage + 1 {
		for start := 0; start < 81; start += 10 {
			same, down, mixed := [][4]int{}, [][4]int{}, [][4]int{}
			for place := range size {
				same = append(same, deckCards[start])
				down = append(down, deckCards[(start+80*place)%81])
				mixed = append(mixed, deckCards[(start+31*place*place+17*place*size)%81])
			}
			lists = append(lists, same, down, mixed)
		}
	}
	return lists
}

// oddLists returns lists that are too long, and lists with what is no card at their first place,
// at their last one and between.
func oddLists() [][][4]int {
	lists := [][][4]int{allCards()[:28], allCards(), slices.Repeat(handOf(0), 28), slices.Repeat(sortedWords(), 300)}
	for _, c := range oddCards() {
		for _, size := range []int{1, 2, 9, impl.MaxMessage} {
			for _, place := range []int{0, size / 2, size - 1} {
				list := slices.Repeat(handOf(40), size)
				list[place] = c
				lists = append(lists, list)
			}
		}
	}
	return lists
}
