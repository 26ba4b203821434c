package tests

import (
	"math"
	"slices"

	"loop.example/g01203/impl"
)

// gameAt returns a Game with a Deal in which all players have 0 lines and 0 wrong claims.
func gameAt(d impl.Deal, players int) impl.Game {
	return impl.Game{Deal: d, Scores: make([]int, players), Wrong: make([]int, players)}
}

// tableGame returns a Game of two players behind the end of the pile, with these cards on the
// table.
func tableGame(numbers ...int) impl.Game {
	return gameAt(impl.Deal{Seed: 1, Next: 81, Laid: handOf(numbers...)}, 2)
}

// ownGame returns the same Game in memory of its own.
func ownGame(g impl.Game) impl.Game {
	g.Deal.Laid = slices.Clone(g.Deal.Laid)
	g.Scores = slices.Clone(g.Scores)
	g.Wrong = slices.Clone(g.Wrong)
	return g
}

func sameGame(a, b impl.Game) bool {
	return sameDeal(a.Deal, b.Deal) && slices.Equal(a.Scores, b.Scores) && slices.Equal(a.Wrong, b.Wrong)
}

func isZeroGame(g impl.Game) bool {
	return isZeroDeal(g.Deal) && len(g.Scores) == 0 && len(g.Wrong) == 0
}

// kindByTraits returns the kind of a Claim as the document says it, for the Deal as it is.
func kindByTraits(g impl.Game, c impl.Claim) int {
	p, laid := c.Places, g.Deal.Laid
	if c.Player < 0 || c.Player >= len(g.Scores) {
		return 3
	}
	for i := range laid {
		for j := range i {
			for k := range j {
				if p == [3]int{k, j, i} && isLineByTraits(laid[k], laid[j], laid[i]) {
					return 1
				}
				if p == [3]int{k, j, i} {
					return 2
				}
			}
		}
	}
	return 3
}

// laidOn returns a Deal in which more cards have been laid as long as it is stuck and not over.
func laidOn(d impl.Deal) impl.Deal {
	for len(linesByTraits(d.Laid)) == 0 && d.Next < 81 {
		d = layByOnes(d, 3)
	}
	return d
}

// claimByOnes returns the Game behind a Claim, and its kind.
func claimByOnes(g impl.Game, c impl.Claim) (impl.Game, int) {
	g = ownGame(g)
	g.Deal = laidOn(g.Deal)
	kind := kindByTraits(g, c)
	if kind == 1 {
		g.Deal = takeByOnes(g.Deal, c.Places)
		if g.Scores[c.Player] < 60 {
			g.Scores[c.Player]++
		}
	}
	if kind == 2 && g.Wrong[c.Player] < 60 {
		g.Wrong[c.Player]++
	}
	return g, kind
}

// claimsByOnes returns the Game behind the Claims of a list, and their kinds.
func claimsByOnes(g impl.Game, list []impl.Claim) (impl.Game, []int) {
	g, kinds := ownGame(g), []int{}
	for _, c := range list {
		next, kind := claimByOnes(g, c)
		g, kinds = next, append(kinds, kind)
	}
	return g, kinds
}

// countsOf returns how many Claims were right, wrong and idle, at the places of their kinds.
func countsOf(kinds []int) [4]int {
	counts := [4]int{}
	for _, kind := range kinds {
		counts[kind]++
	}
	return counts
}

// tallies returns lists of numbers of so many players: the least and the greatest ones, those
// beside them, and mixed ones.
func tallies(players int) [][]int {
	lists := [][]int{}
	for _, all := range [][]int{{0, 0, 0, 0}, {60, 60, 60, 60}, {59, 60, 0, 1}, {3, 1, 3, 2}, {0, 7, 7, 0}, {1, 59, 30, 60}} {
		lists = append(lists, slices.Clone(all[:players]))
	}
	return lists
}

// gameDeals returns Deals with tables of all kinds, few enough to make many Claims in each.
func gameDeals() []impl.Deal {
	deals := []impl.Deal{
		{}, {Next: 81}, {Seed: 1, Next: 81, Laid: handOf(0, 1)}, {Seed: 1, Next: 80, Laid: handOf(0, 1, 3)},
		{Seed: 1, Next: 81, Laid: handOf(8, 3, 0, 1, 2, 4)}, {Seed: 1, Next: 81, Laid: greatCap()},
		{Seed: 5, Next: 40, Laid: pileByExchange(5)[:30]}, {Seed: 1, Next: 78, Laid: handOf(16)}, lateDeal(),
	}
	for _, seed := range []int{0, 92} {
		for i, d := range playByOnes(seed) {
			if i%3 == 0 || d.Next == 81 {
				deals = append(deals, d)
			}
		}
	}
	for _, next := range []int{1, 3, 9, 20, 50, 72, 76, 77, 78, 79, 80, 81} {
		pile := pileByExchange(5)
		deals = append(deals, impl.Deal{Seed: 5, Next: next, Laid: stuckAmong(pile[:next])}, impl.Deal{Seed: 5, Next: next})
	}
	return deals
}

// lateDeal is a stuck Deal of one card, whose three next cards are 75, 35 and 17: the card 10
// that lies there makes a line with the first two of them.
func lateDeal() impl.Deal { return impl.Deal{Seed: 1, Next: 78, Laid: handOf(10)} }

// someGames returns Games of all numbers of players.
func someGames() []impl.Game {
	games := []impl.Game{}
	for i, d := range gameDeals() {
		for players := 1; players <= impl.MaxPlayers; players++ {
			lists := tallies(players)
			games = append(games, gameAt(d, players), impl.Game{Deal: d, Scores: lists[(i+players)%6], Wrong: lists[(i/2+2*players)%6]})
		}
	}
	return games
}

// oddGames returns Games that are not valid.
func oddGames() []impl.Game {
	games := []impl.Game{{}}
	for _, d := range oddDeals() {
		games = append(games, gameAt(d, 2))
	}
	lined := impl.Deal{Seed: 1, Next: 81, Laid: handOf(0, 1, 2, 40)}
	for scores := range 7 {
		for wrong := range 7 {
			if scores != wrong || scores == 0 || scores > 4 {
				games = append(games, impl.Game{Deal: lined, Scores: make([]int, scores), Wrong: make([]int, wrong)})
			}
		}
	}
	for _, odd := range []int{-1, 61, -60, 62, 256, 1 << 32, math.MaxInt, math.MinInt} {
		for players := 1; players <= impl.MaxPlayers; players++ {
			for player := range players {
				inScores, inWrong := gameAt(lined, players), gameAt(lined, players)
				inScores.Scores[player] = odd
				inWrong.Wrong[player] = odd
				games = append(games, inScores, inWrong)
			}
		}
	}
	return games
}

// otherPlayers returns numbers that are of no player of a Game with so many.
func otherPlayers(players int) []int {
	return []int{-1, players, players + 1, -players, 256, 1 << 32, math.MaxInt, math.MinInt}
}

// someClaims returns Claims for a Game, by its first and its last player and by nobody: lines,
// other places, and places that are the same, out of order or outside the table; those of the
// table as it is when cards have been laid are among them.
func someClaims(g impl.Game) []impl.Claim {
	places := [][3]int{
		{0, 0, 0}, {0, 0, 1}, {0, 1, 1}, {2, 1, 0}, {1, 0, 2}, {0, 2, 1}, {-1, 0, 1}, {-3, -2, -1},
		{0, 1, math.MaxInt}, {math.MinInt, 0, 1}, {math.MinInt, 0, math.MaxInt}, {0, 1, 1 << 32},
	}
	for _, laid := range [][][4]int{g.Deal.Laid, laidOn(g.Deal).Laid} {
		n := len(laid)
		places = append(places, [3]int{0, 1, 2}, [3]int{n - 3, n - 2, n - 1}, [3]int{n - 2, n - 1, n}, [3]int{0, 1, n - 1}, [3]int{0, 1, n})
		if lines := linesByTraits(laid); len(lines) > 0 {
			first, last := lines[0], lines[len(lines)-1]
			places = append(places, first, last, [3]int{first[1], first[0], first[2]}, [3]int{last[0], last[2], last[1]}, [3]int{last[2], last[1], last[0]})
		}
	}
	claims := []impl.Claim{}
	for i, three := range places {
		nobody := otherPlayers(len(g.Scores))[i%8]
		for _, player := range []int{0, len(g.Scores) - 1, nobody} {
			claims = append(claims, impl.Claim{Player: player, Places: three})
		}
	}
	return claims
}

// someList returns a list of so many Claims for a Game. They are made up while they are made:
// lines in some order, other places, and Claims that are idle.
func someList(g impl.Game, size int, seed int) []impl.Claim {
	list := []impl.Claim{}
	state := uint32(seed)
	next := func(n int) int {
		state = state*1664525 + 1013904223
		return int(state>>16) % n
	}
	for range size {
		table := laidOn(g.Deal).Laid
		c := impl.Claim{Player: next(len(g.Scores)), Places: [3]int{next(7), 7 + next(3), 10 + next(4)}}
		lines := linesByTraits(table)
		switch choice := next(8); {
		case choice < 4 && len(lines) > 0:
			c.Places = lines[next(len(lines))]
		case choice == 4:
			c.Player = otherPlayers(len(g.Scores))[next(8)]
		case choice == 5:
			c.Places[next(3)] = c.Places[next(3)]
		}
		list = append(list, c)
		g, _ = claimByOnes(g, c)
	}
	return list
}
