package tests

import (
	"fmt"
	"math"
	"slices"

	"loop.example/g01203/impl"
)

// sameValues are the numbers 0, 1 and 2 in their own order.
var sameValues = [3]int{0, 1, 2}

// stay returns the Map that leaves each card as it is.
func stay() impl.Map {
	return impl.Map{Traits: [4]int{0, 1, 2, 3}, Values: [4][3]int{sameValues, sameValues, sameValues, sameValues}}
}

// everyTraits returns the 24 orders of the places, in ascending order.
func everyTraits() [][4]int {
	all := [][4]int{}
	for number := range 256 {
		traits := [4]int{number / 64, number / 16 % 4, number / 4 % 4, number % 4}
		sorted := traits
		slices.Sort(sorted[:])
		if sorted == [4]int{0, 1, 2, 3} {
			all = append(all, traits)
		}
	}
	return all
}

// everyMap returns all Maps in order.
func everyMap() []impl.Map {
	values := [][3]int{{0, 1, 2}, {0, 2, 1}, {1, 0, 2}, {1, 2, 0}, {2, 0, 1}, {2, 1, 0}}
	maps := []impl.Map{}
	for _, traits := range everyTraits() {
		for _, a := range values {
			for _, b := range values {
				for _, c := range values {
					for _, d := range values {
						maps = append(maps, impl.Map{Traits: traits, Values: [4][3]int{a, b, c, d}})
					}
				}
			}
		}
	}
	return maps
}

// slowMap returns a Map with orbits of eighteen cards: three traits change their places, which
// takes nine times to come around, and two values of the other one are exchanged.
func slowMap() impl.Map {
	return impl.Map{Traits: [4]int{1, 2, 0, 3}, Values: [4][3]int{{1, 2, 0}, sameValues, sameValues, {1, 0, 2}}}
}

// someMaps returns special Maps, and Maps from all parts of everyMap, with all of its Traits.
func someMaps() []impl.Map {
	maps := []impl.Map{stay(), slowMap()}
	all := everyMap()
	for i := 0; i < len(all); i += 157 {
		maps = append(maps, all[i])
	}
	return append(maps, all[len(all)-1])
}

// oddMaps returns Maps that are not valid.
func oddMaps() []impl.Map {
	maps := []impl.Map{{}, {Traits: [4]int{0, 1, 2, 3}}, {Values: stay().Values}}
	far := []int{-1, -2, 256, 1 << 32, math.MaxInt, math.MinInt}
	for i := range 4 {
		for _, number := range append(far, 4, (i+1)%4, (i+3)%4) {
			m := slowMap()
			m.Traits[i] = number
			if number != slowMap().Traits[i] {
				maps = append(maps, m)
			}
		}
		for j := range 3 {
			for _, number := range append(far, 3, slowMap().Values[i][(j+1)%3], slowMap().Values[i][(j+2)%3]) {
				m := slowMap()
				m.Values[i][j] = number
				maps = append(maps, m)
			}
		}
	}
	return maps
}

// imageByTraits returns the image of a card, trait by trait as the document says it.
func imageByTraits(m impl.Map, c [4]int) [4]int {
	a := m.Values[0][c[m.Traits[0]]]
	b := m.Values[1][c[m.Traits[1]]]
	d := m.Values[2][c[m.Traits[2]]]
	e := m.Values[3][c[m.Traits[3]]]
	return [4]int{a, b, d, e}
}

// imagesByTraits returns the image of a hand.
func imagesByTraits(m impl.Map, h [][4]int) [][4]int {
	images := [][4]int{}
	for _, c := range h {
		images = append(images, imageByTraits(m, c))
	}
	slices.SortFunc(images, func(a, b [4]int) int { return slices.Compare(a[:], b[:]) })
	return images
}

// numberByTraits returns the number of a card.
func numberByTraits(c [4]int) int { return 27*c[0] + 9*c[1] + 3*c[2] + c[3] }

// orbitByTraits returns the numbers of a card, its image, and so on, until the card comes again.
func orbitByTraits(m impl.Map, c [4]int) []int {
	orbit := []int{numberByTraits(c)}
	for image := imageByTraits(m, c); image != c; image = imageByTraits(m, image) {
		orbit = append(orbit, numberByTraits(image))
	}
	return orbit
}

// smallHands returns hands of at most MaxAlike cards: that without any, hands of each other
// size, lines of each kind, lines with other cards, caps of quads and of others.
func smallHands() [][][4]int {
	hands := [][][4]int{
		handOf(0, 1, 2), handOf(0, 4, 8), handOf(0, 13, 26), handOf(0, 40, 80), handOf(7, 31, 55), handOf(3, 43, 74),
		handOf(0, 1, 3), handOf(0, 1, 4), handOf(0, 1, 5), handOf(0, 1, 14), handOf(0, 4, 27), handOf(12, 40, 53),
		handOf(0, 1, 2, 3), handOf(0, 1, 2, 80), handOf(0, 40, 79, 80), handOf(0, 1, 3, 4), handOf(0, 1, 9, 12), handOf(8, 17, 71, 80),
		handOf(0, 1, 2, 3, 4, 5), handOf(0, 1, 2, 3, 6), handOf(0, 13, 26, 27, 40, 53), handOf(0, 1, 3, 9, 27), handOf(53, 71, 77, 79, 80),
	}
	for _, h := range someHands() {
		if len(h) <= impl.MaxAlike {
			hands = append(hands, h)
		}
	}
	return append(hands, lowCap()[:6], greatCap()[:6], greatCap()[14:])
}

// patternsOf returns which cards of a list are the same in each trait, the traits in order of
// these patterns: a digit tells the first card that has the value of a card.
func patternsOf(cards [][4]int) string {
	patterns := []string{}
	for trait := range 4 {
		pattern := ""
		for _, c := range cards {
			first := slices.IndexFunc(cards, func(b [4]int) bool { return b[trait] == c[trait] })
			pattern += fmt.Sprint(first)
		}
		patterns = append(patterns, pattern)
	}
	slices.Sort(patterns)
	return fmt.Sprint(len(cards), patterns)
}

// shapeOf returns the least patternsOf the cards of a hand in any order. Values can be exchanged
// in each trait and traits with each other, so that hands are alike exactly if it is the same.
func shapeOf(h [][4]int) string {
	least := patternsOf(h)
	cards := slices.Clone(h)
	var exchange func(from int)
	exchange = func(from int) {
		if from == len(cards) {
			least = min(least, patternsOf(cards))
		}
		for i := from; i < len(cards); i++ {
			cards[from], cards[i] = cards[i], cards[from]
			exchange(from + 1)
			cards[from], cards[i] = cards[i], cards[from]
		}
	}
	exchange(0)
	return least
}
