package tests

import (
	"slices"
	"testing"

	"loop.example/g01203/impl"
)

// smallScores returns Games of all numbers of players, with all scores and wrong claims in 0..2
// of up to two players, in 0..1 of more.
func smallScores() []impl.Game {
	games := []impl.Game{}
	for players := 1; players <= impl.MaxPlayers; players++ {
		base, count := 3, 1
		if players > 2 {
			base = 2
		}
		for range 2 * players {
			count *= base
		}
		for code := range count {
			g := gameAt(impl.Deal{Seed: 1, Next: 81, Laid: handOf(0, 1, 3, 4)}, players)
			for player := range players {
				g.Scores[player], code = code%base, code/base
				g.Wrong[player], code = code%base, code/base
			}
			games = append(games, g)
		}
	}
	return games
}

// pointGames returns the Games that points are looked at for.
func pointGames() []impl.Game {
	games := append(smallScores(), someGames()...)
	for players := 1; players <= impl.MaxPlayers; players++ {
		for _, scores := range tallies(players) {
			for _, wrong := range tallies(players) {
				games = append(games, impl.Game{Deal: impl.Deal{Seed: 1, Next: 60}, Scores: scores, Wrong: wrong})
			}
		}
	}
	return games
}

// isAheadOf reports whether a player of a Game is before another one in its rank.
func isAheadOf(g impl.Game, player, other int) bool {
	mine, others := g.Scores[player]-g.Wrong[player], g.Scores[other]-g.Wrong[other]
	if mine != others {
		return mine > others
	}
	if g.Wrong[player] != g.Wrong[other] {
		return g.Wrong[player] < g.Wrong[other]
	}
	return player < other
}

func TestPointsAndLeaders(t *testing.T) {
	shared := 0
	for _, g := range pointGames() {
		want, leading := []int{}, []int{}
		for player := range g.Scores {
			want = append(want, g.Scores[player]-g.Wrong[player])
		}
		for player, count := range want {
			if !slices.ContainsFunc(want, func(other int) bool { return other > count }) {
				leading = append(leading, player)
			}
		}
		if points, ok := impl.PointsOf(g); !ok || !slices.Equal(points, want) {
			t.Errorf("PointsOf(%v) = %v, %v; want %v", g, points, ok, want)
		}
		if leaders, ok := impl.LeadersOf(g); !ok || !slices.Equal(leaders, leading) {
			t.Errorf("LeadersOf(%v) = %v, %v; want %v", g, leaders, ok, leading)
		}
		if len(leading) > 1 {
			shared++
		}
	}
	if shared < 100 {
		t.Errorf("the most points are shared only %d times", shared)
	}
}

// RankGame has each player behind as many others as are ahead, and begins with a leader.
func TestRanks(t *testing.T) {
	for _, g := range pointGames() {
		want := make([]int, len(g.Scores))
		for player := range g.Scores {
			before := 0
			for other := range g.Scores {
				if isAheadOf(g, other, player) {
					before++
				}
			}
			want[before] = player
		}
		rank, ok := impl.RankGame(g)
		if !ok || !slices.Equal(rank, want) {
			t.Errorf("RankGame(%v) = %v, %v; want %v", g, rank, ok, want)
			continue
		}
		if leaders, ok := impl.LeadersOf(g); !ok || !slices.Contains(leaders, rank[0]) {
			t.Errorf("RankGame(%v) = %v, but the leaders are %v", g, rank, leaders)
		}
	}
}

func TestKnownPoints(t *testing.T) {
	for _, one := range []struct {
		scores, wrong         []int
		points, leaders, rank []int
	}{
		{[]int{0}, []int{0}, []int{0}, []int{0}, []int{0}},
		{[]int{0}, []int{60}, []int{-60}, []int{0}, []int{0}},
		{[]int{60, 0}, []int{0, 60}, []int{60, -60}, []int{0}, []int{0, 1}},
		{[]int{0, 1}, []int{0, 0}, []int{0, 1}, []int{1}, []int{1, 0}},
		{[]int{0, 0}, []int{1, 2}, []int{-1, -2}, []int{0}, []int{0, 1}},
		// With as many points, fewer wrong claims are better, and then the number.
		{[]int{3, 2, 1}, []int{2, 1, 0}, []int{1, 1, 1}, []int{0, 1, 2}, []int{2, 1, 0}},
		{[]int{5, 5, 5, 5}, []int{5, 5, 5, 5}, []int{0, 0, 0, 0}, []int{0, 1, 2, 3}, []int{0, 1, 2, 3}},
		{[]int{4, 6, 2, 5}, []int{1, 3, 0, 2}, []int{3, 3, 2, 3}, []int{0, 1, 3}, []int{0, 3, 1, 2}},
		{[]int{1, 4, 4, 0}, []int{0, 2, 2, 9}, []int{1, 2, 2, -9}, []int{1, 2}, []int{1, 2, 0, 3}},
	} {
		g := impl.Game{Deal: impl.Deal{Next: 81}, Scores: one.scores, Wrong: one.wrong}
		points, fine := impl.PointsOf(g)
		leaders, good := impl.LeadersOf(g)
		rank, ok := impl.RankGame(g)
		if !fine || !slices.Equal(points, one.points) {
			t.Errorf("PointsOf(%v) = %v, %v; want %v", g, points, fine, one.points)
		}
		if !good || !slices.Equal(leaders, one.leaders) {
			t.Errorf("LeadersOf(%v) = %v, %v; want %v", g, leaders, good, one.leaders)
		}
		if !ok || !slices.Equal(rank, one.rank) {
			t.Errorf("RankGame(%v) = %v, %v; want %v", g, rank, ok, one.rank)
		}
	}
}

func TestLinesAhead(t *testing.T) {
	for _, d := range someDeals() {
		want := 0
		for left := len(restOf(d)); left >= 3; left -= 3 {
			want++
		}
		if ahead, ok := impl.LinesAhead(gameAt(d, 2)); !ok || ahead != want {
			t.Errorf("LinesAhead(%v) = %d, %v; want %d", d, ahead, ok, want)
		}
	}
	pile := pileByExchange(1)
	for _, one := range []struct{ next, laid, want int }{
		{0, 0, 27}, {12, 12, 27}, {12, 11, 26}, {12, 9, 26}, {81, 81, 27}, {81, 0, 0}, {81, 2, 0}, {81, 3, 1}, {81, 5, 1}, {81, 6, 2},
		{80, 0, 0}, {80, 1, 0}, {80, 2, 1}, {79, 0, 0}, {79, 1, 1}, {78, 0, 1},
	} {
		g := gameAt(impl.Deal{Seed: 1, Next: one.next, Laid: pile[:one.laid]}, 1)
		if ahead, ok := impl.LinesAhead(g); !ok || ahead != one.want {
			t.Errorf("LinesAhead of %d cards at %d = %d, %v; want %d", one.laid, one.next, ahead, ok, one.want)
		}
	}
}

func TestWhoCanLead(t *testing.T) {
	found := map[bool]int{}
	for _, g := range pointGames() {
		ahead := len(restOf(g.Deal)) / 3
		for player := range g.Scores {
			want := true
			for other := range g.Scores {
				if other != player && g.Scores[player]-g.Wrong[player]+ahead <= g.Scores[other]-g.Wrong[other] {
					want = false
				}
			}
			if can, ok := impl.CanLead(g, player); !ok || can != want {
				t.Errorf("CanLead(%v, %d) = %v, %v; want %v", g, player, can, ok, want)
			}
			found[want]++
		}
		for _, player := range otherPlayers(len(g.Scores)) {
			if can, ok := impl.CanLead(g, player); ok || can {
				t.Errorf("CanLead(%v, %d) = %v, %v", g, player, can, ok)
			}
		}
	}
	if found[true] < 100 || found[false] < 100 {
		t.Errorf("who can lead: %v", found)
	}
}

// As many points as another player are not enough, with lines ahead or without; nobody else has
// to be led by a single player.
func TestWhoCanLeadJust(t *testing.T) {
	pile := pileByExchange(1)
	for _, one := range []struct {
		scores, wrong []int
		laid          int
		want          []bool
	}{
		{[]int{0, 2}, []int{0, 0}, 6, []bool{false, true}},
		{[]int{0, 2}, []int{0, 0}, 8, []bool{false, true}},
		{[]int{0, 2}, []int{0, 0}, 9, []bool{true, true}},
		{[]int{0, 2}, []int{0, 1}, 6, []bool{true, true}},
		{[]int{0, 0}, []int{0, 0}, 0, []bool{false, false}},
		{[]int{0, 0}, []int{0, 0}, 2, []bool{false, false}},
		{[]int{0, 0}, []int{0, 0}, 3, []bool{true, true}},
		{[]int{1, 0}, []int{0, 0}, 0, []bool{true, false}},
		{[]int{0}, []int{60}, 0, []bool{true}},
		{[]int{3, 1, 2, 3}, []int{0, 0, 0, 3}, 6, []bool{true, false, true, false}},
		{[]int{5, 4, 0}, []int{0, 0, 0}, 3, []bool{true, false, false}},
	} {
		g := impl.Game{Deal: impl.Deal{Seed: 1, Next: 81, Laid: pile[:one.laid]}, Scores: one.scores, Wrong: one.wrong}
		for player, want := range one.want {
			if can, ok := impl.CanLead(g, player); !ok || can != want {
				t.Errorf("CanLead of %d: %v less %v and %d cards: %v, %v", player, one.scores, one.wrong, one.laid, can, ok)
			}
		}
	}
}
