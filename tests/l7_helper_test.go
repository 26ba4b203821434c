package tests

import (
	"slices"

	"loop.example/g01203/impl"
)

// starAt returns a card with the cards of so many lines that cross in it, from one of its 40
// lines on.
func starAt(number, count, start int) [][4]int {
	through := slices.DeleteFunc(linesByTraits(allCards()), func(line [3]int) bool { return !slices.Contains(line[:], number) })
	parts := [][][4]int{}
	for i := range count {
		parts = append(parts, handOf(through[(start+3*i)%40][:]...))
	}
	return joinedHand(parts...)
}

// partedHand returns the cards of so many lines of the parting of all cards that a card makes by
// being added, from one of them on.
func partedHand(c [4]int, count, start int) [][4]int {
	lines := stepLines(c)
	parts := [][][4]int{}
	for i := range count {
		parts = append(parts, handOf(lines[(start+4*i)%27][:]...))
	}
	return joinedHand(parts...)
}

// stepLines returns the lines of three cards of which each one is the one before it and a card
// added.
func stepLines(c [4]int) [][3]int {
	cards, lines := allCards(), [][3]int{}
	for number, at := range cards {
		line := [3]int{number}
		for i := 1; i < 3; i++ {
			for trait := range 4 {
				at[trait] = (at[trait] + c[trait]) % 3
			}
			line[i] = slices.Index(cards, at)
		}
		slices.Sort(line[:])
		lines = append(lines, line)
	}
	slices.SortFunc(lines, byPlaces)
	return slices.Compact(lines)
}

func byPlaces(a, b [3]int) int { return slices.Compare(a[:], b[:]) }

func byLines(a, b [][3]int) int { return slices.CompareFunc(a, b, byPlaces) }

// lineHands returns hands of each size, many of them with many lines: flats, parts of flats, lines
// that cross in one card, and hands that are parted, also with cards more or less.
func lineHands() [][][4]int {
	hands := flatHands()
	for number := 0; number < 81; number += 13 {
		for count := 2; count <= 13; count++ {
			hands = append(hands, starAt(number, count, number))
		}
	}
	for number := 1; number < 81; number += 7 {
		for count := 1; count <= 9; count++ {
			h := partedHand(allCards()[number], count, number)
			hands = append(hands, h, h[1:], h[:len(h)-1], partOf(h, 4, number))
		}
	}
	// Parts of a space, which have the most lines of all hands of their size.
	for steps := range 9 {
		for size := 7; size <= impl.MaxParting+1; size++ {
			hands = append(hands, spacePart(steps, size))
		}
	}
	return hands
}

// spacePart returns some cards of a space, taken with steps of different lengths.
func spacePart(steps, size int) [][4]int {
	numbers := []int{}
	for i := range size {
		numbers = append(numbers, 27+(steps+i*(3*steps+1))%27)
	}
	return joinedHand(handOf(numbers...))
}

// partingPools returns hands of at most MaxParting cards.
func partingPools() [][][4]int {
	return slices.DeleteFunc(lineHands(), func(h [][4]int) bool { return len(h) > impl.MaxParting })
}

// isPickingByCards reports whether a list is a picking, as the definition says it.
func isPickingByCards(h [][4]int, list [][3]int) bool {
	taken := map[int]bool{}
	for i, line := range list {
		if line[0] < 0 || line[1] <= line[0] || line[2] <= line[1] || line[2] >= len(h) {
			return false
		}
		if !isLineByTraits(h[line[0]], h[line[1]], h[line[2]]) || i > 0 && byPlaces(list[i-1], line) >= 0 {
			return false
		}
		for _, place := range line {
			if taken[place] {
				return false
			}
			taken[place] = true
		}
	}
	return true
}

// pickingsByCards returns all pickings of a hand in lexicographic order. It goes through the
// cards: each one is in no line, or in one with two cards that stand behind it.
func pickingsByCards(h [][4]int) [][][3]int {
	lines, pickings := linesByTraits(h), [][][3]int{}
	var look func(place, taken int, picking [][3]int)
	look = func(place, taken int, picking [][3]int) {
		if place == len(h) {
			pickings = append(pickings, picking)
			return
		}
		look(place+1, taken, picking)
		for _, line := range lines {
			set := 1<<line[0] | 1<<line[1] | 1<<line[2]
			if line[0] == place && taken&set == 0 {
				look(place+1, taken|set, append(slices.Clone(picking), line))
			}
		}
	}
	look(0, 0, nil)
	slices.SortFunc(pickings, byLines)
	return pickings
}

// greedyByCards returns the picking that is found by taking each line whose cards are still
// there.
func greedyByCards(h [][4]int) [][3]int {
	picking, taken := [][3]int{}, map[int]bool{}
	for _, line := range linesByTraits(h) {
		if !taken[line[0]] && !taken[line[1]] && !taken[line[2]] {
			picking = append(picking, line)
			taken[line[0]], taken[line[1]], taken[line[2]] = true, true, true
		}
	}
	return picking
}

// smallPickingHand returns a hand whose first line crosses the two others, which are disjoint.
func smallPickingHand() [][4]int { return handOf(0, 1, 2, 3, 6, 10, 19) }
