package tests

import (
	"math"
	"slices"

	"loop.example/g01203/impl"
)

// everyWeight returns the 40 weights in ascending order: zeros, a 1, and any numbers behind it.
func everyWeight() [][4]int {
	weights := [][4]int{}
	for place := 3; place >= 0; place-- {
		count := 1
		for range 3 - place {
			count *= 3
		}
		for number := range count {
			w := [4]int{}
			w[place] = 1
			for behind := 3; behind > place; behind-- {
				w[behind] = number % 3
				number /= 3
			}
			weights = append(weights, w)
		}
	}
	return weights
}

// oddWeights returns what are no weights: zeros everywhere, a 2 before each 1, and numbers
// outside 0..2 before and behind the first 1.
func oddWeights() [][4]int {
	odd := [][4]int{{}, {2, 0, 0, 0}, {0, 2, 0, 0}, {0, 0, 2, 0}, {0, 0, 0, 2}, {2, 1, 0, 0}, {0, 2, 1, 1}, {0, 0, 2, 1}, {2, 2, 2, 2}, {2, 1, 1, 1}}
	for place := range 4 {
		for _, number := range []int{-1, -2, 3, 4, 256, 1 << 32, math.MaxInt, math.MinInt} {
			for _, w := range [][4]int{{}, {1, 1, 1, 1}, {0, 1, 2, 0}, {1, 0, 0, 2}, {0, 0, 0, 1}} {
				w[place] = number
				odd = append(odd, w)
			}
		}
	}
	return odd
}

// valueByTraits returns the value of a card by a weight.
func valueByTraits(c, w [4]int) int { return (c[0]*w[0] + c[1]*w[1] + c[2]*w[2] + c[3]*w[3]) % 3 }

// spaceBy returns all cards with a value by a weight.
func spaceBy(w [4]int, value int) [][4]int {
	space := [][4]int{}
	for _, c := range allCards() {
		if valueByTraits(c, w) == value {
			space = append(space, c)
		}
	}
	return space
}

// everySpace returns all spaces.
func everySpace() [][][4]int {
	spaces := [][][4]int{}
	for _, w := range everyWeight() {
		spaces = append(spaces, spaceBy(w, 0), spaceBy(w, 1), spaceBy(w, 2))
	}
	return spaces
}

// everyPlane returns all planes: what two spaces that are not the same have in common, if they
// have anything in common.
func everyPlane() [][][4]int {
	planes := [][][4]int{}
	found := map[[9][4]int]bool{}
	spaces := everySpace()
	for i, g := range spaces {
		for _, h := range spaces[:i] {
			common := slices.DeleteFunc(slices.Clone(g), func(c [4]int) bool { return !slices.Contains(h, c) })
			if len(common) == 9 && !found[[9][4]int(common)] {
				found[[9][4]int(common)] = true
				planes = append(planes, common)
			}
		}
	}
	return planes
}

// everyFlat returns all flats of a dimension in 0..4.
func everyFlat(dimension int) [][][4]int {
	flats := [][][4]int{}
	switch dimension {
	case 0:
		for number := range 81 {
			flats = append(flats, handOf(number))
		}
	case 1:
		for _, line := range linesByTraits(allCards()) {
			flats = append(flats, handOf(line[:]...))
		}
	case 2:
		return everyPlane()
	case 3:
		return everySpace()
	case 4:
		flats = append(flats, allCards())
	}
	return flats
}

// weightsWith returns all weights by which all cards of a hand have the same value.
func weightsWith(h [][4]int) [][4]int {
	return slices.DeleteFunc(everyWeight(), func(w [4]int) bool {
		return slices.ContainsFunc(h, func(c [4]int) bool { return valueByTraits(c, w) != valueByTraits(h[0], w) })
	})
}

// spanBySpaces returns the span of a hand: what all spaces with all of its cards have in common.
func spanBySpaces(h [][4]int) [][4]int {
	span := [][4]int{}
	if len(h) == 0 {
		return span
	}
	weights := weightsWith(h)
	for _, c := range allCards() {
		if !slices.ContainsFunc(weights, func(w [4]int) bool { return valueByTraits(c, w) != valueByTraits(h[0], w) }) {
			span = append(span, c)
		}
	}
	return span
}

// dimensionByCards returns the dimension of a hand: each card that is not in the span of those
// before it makes it greater by 1.
func dimensionByCards(h [][4]int) int {
	dimension := -1
	for place, c := range h {
		if !slices.Contains(spanBySpaces(h[:place]), c) {
			dimension++
		}
	}
	return dimension
}

// othersThan returns all cards that are not in a list.
func othersThan(cards [][4]int) [][4]int {
	return slices.DeleteFunc(allCards(), func(c [4]int) bool { return slices.Contains(cards, c) })
}

// hasCards reports whether all of some cards are in a list.
func hasCards(list, cards [][4]int) bool {
	return !slices.ContainsFunc(cards, func(c [4]int) bool { return !slices.Contains(list, c) })
}

// isClosed reports whether no other card makes a line with two cards of a list.
func isClosed(cards [][4]int) bool {
	for _, other := range othersThan(cards) {
		if len(pairsByTraits(cards, other)) > 0 {
			return false
		}
	}
	return true
}

// partOf returns each card of a list whose place, some steps on, is not divided by n.
func partOf(cards [][4]int, n, steps int) [][4]int {
	part := [][4]int{}
	for place, c := range cards {
		if (place+steps)%n != 0 {
			part = append(part, c)
		}
	}
	return part
}

// joinedHand returns the hand of all cards of some lists.
func joinedHand(lists ...[][4]int) [][4]int {
	return slices.DeleteFunc(allCards(), func(c [4]int) bool {
		return !slices.ContainsFunc(lists, func(list [][4]int) bool { return slices.Contains(list, c) })
	})
}

// flatHands returns hands of each dimension: flats, parts of flats, flats with cards of others,
// and other hands.
func flatHands() [][][4]int {
	hands := append(someHands(), smallHands()...)
	for dimension, step := range []int{9, 97, 83, 7} {
		flats := everyFlat(dimension)
		for i := 0; i < len(flats); i += step {
			flat, other := flats[i], flats[(5*i+3)%len(flats)]
			hands = append(hands, flat, partOf(flat, 2, i), partOf(flat, 3, i), partOf(flat, 4, i), partOf(flat, len(flat), i))
			if both := joinedHand(flat, other); len(both) <= impl.MaxHand {
				hands = append(hands, both, partOf(both, 5, i))
			}
		}
	}
	return hands
}
