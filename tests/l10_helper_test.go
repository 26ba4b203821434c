package tests

import "slices"

// deckCards are all cards, and thirdNumbers what deckThirds tells of them, made only once for what
// is asked of very many choices of cards.
var (
	deckCards    = allCards()
	thirdNumbers = deckThirds()
)

// placeChoices returns all choices of so many of the first n places, each in ascending order, in
// lexicographic order.
func placeChoices(n, size int) [][]int {
	if size == 0 {
		return [][]int{{}}
	}
	choices := [][]int{}
	for first := range n {
		for _, behind := range placeChoices(n-first-1, size-1) {
			choice := []int{first}
			for _, place := range behind {
				choice = append(choice, first+1+place)
			}
			choices = append(choices, choice)
		}
	}
	return choices
}

// cardsOf returns the cards at these places of a hand.
func cardsOf(h [][4]int, places []int) [][4]int {
	cards := [][4]int{}
	for _, place := range places {
		cards = append(cards, h[place])
	}
	return cards
}

// partingsOf returns all ways in which an even number of cards can be parted into pairs.
func partingsOf(cards [][4]int) [][][2][4]int {
	if len(cards) == 0 {
		return [][][2][4]int{{}}
	}
	partings := [][][2][4]int{}
	for i := 1; i < len(cards); i++ {
		rest := slices.Concat(cards[1:i], cards[i+1:])
		for _, parting := range partingsOf(rest) {
			partings = append(partings, append(parting, [2][4]int{cards[0], cards[i]}))
		}
	}
	return partings
}

// thirdByTraits returns the card that is a line with two different ones.
func thirdByTraits(a, b [4]int) [4]int {
	return deckCards[thirdNumbers[numberByTraits(a)][numberByTraits(b)]]
}

// middlesByTraits returns the cards that are a line with both pairs of some parting of four
// different cards, in ascending order.
func middlesByTraits(cards [][4]int) [][4]int {
	middles := [][4]int{}
	for _, pairs := range partingsOf(cards) {
		for _, m := range deckCards {
			if isLineByTraits(pairs[0][0], pairs[0][1], m) && isLineByTraits(pairs[1][0], pairs[1][1], m) {
				middles = append(middles, m)
			}
		}
	}
	slices.SortFunc(middles, byTraits)
	return slices.Compact(middles)
}

// thirdsByTraits returns for each parting of cards into pairs the third cards of these.
func thirdsByTraits(cards [][4]int) [][][4]int {
	list := [][][4]int{}
	for _, pairs := range partingsOf(cards) {
		thirds := [][4]int{}
		for _, pair := range pairs {
			thirds = append(thirds, thirdByTraits(pair[0], pair[1]))
		}
		list = append(list, thirds)
	}
	return list
}

// isGhostByTraits reports whether six different cards are a ghost, as the definition says it.
func isGhostByTraits(cards [][4]int) bool {
	return slices.ContainsFunc(thirdsByTraits(cards), func(thirds [][4]int) bool {
		return isLineByTraits(thirds[0], thirds[1], thirds[2])
	})
}

// quadsByTraits returns the places of all quads of a hand.
func quadsByTraits(h [][4]int) [][4]int {
	quads := [][4]int{}
	for _, places := range placeChoices(len(h), 4) {
		if len(middlesByTraits(cardsOf(h, places))) > 0 {
			quads = append(quads, [4]int(places))
		}
	}
	return quads
}

// ghostsByTraits returns the places of all ghosts of a hand.
func ghostsByTraits(h [][4]int) [][6]int {
	ghosts := [][6]int{}
	for _, places := range placeChoices(len(h), 6) {
		if isGhostByTraits(cardsOf(h, places)) {
			ghosts = append(ghosts, [6]int(places))
		}
	}
	return ghosts
}

// squareHand returns nine cards without lines and quads: two numbers u and v, and the square of
// the complex number that they are.
func squareHand() [][4]int {
	h := [][4]int{}
	for u := range 3 {
		for v := range 3 {
			h = append(h, [4]int{u, v, (u*u + 2*v*v) % 3, 2 * u * v % 3})
		}
	}
	return h
}

// scarceHand returns a hand without quads, but with lines: from one card on, each one that makes
// no quad with those before it, until there are so many or no more such cards.
func scarceHand(start, size int) [][4]int {
	used, numbers := map[int]bool{}, []int{}
	for step := range 81 {
		number := (start + 31*step) % 81
		fresh := []int{}
		for _, other := range numbers {
			fresh = append(fresh, thirdNumbers[number][other])
		}
		if len(numbers) < size && !slices.ContainsFunc(fresh, func(third int) bool { return used[third] }) {
			for _, third := range fresh {
				used[third] = true
			}
			numbers = append(numbers, number)
		}
	}
	return joinedHand(handOf(numbers...))
}

// otherHands returns hands of each size: with lines, without lines and without quads.
func otherHands() [][][4]int {
	hands := chanceHands()
	for start := 0; start < 81; start += 9 {
		for size := 4; size <= 9; size++ {
			hands = append(hands, scarceHand(start, size))
		}
	}
	for size := range 10 {
		hands = append(hands, squareHand()[:size])
	}
	return hands
}

// atMost returns those of these hands that have at most so many cards.
func atMost(hands [][][4]int, size int) [][][4]int {
	return slices.DeleteFunc(hands, func(h [][4]int) bool { return len(h) > size })
}
