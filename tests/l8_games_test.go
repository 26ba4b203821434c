package tests

import (
	"math"
	"slices"
	"testing"

	"loop.example/g01203/impl"
)

func TestNewGames(t *testing.T) {
	for _, seed := range someSeeds() {
		for players := 1; players <= impl.MaxPlayers; players++ {
			want := gameAt(layByOnes(impl.Deal{Seed: seed}, 12), players)
			if g, ok := impl.NewGame(seed, players); !ok || !sameGame(g, want) || !impl.IsGame(g) {
				t.Errorf("NewGame(%d, %d) = %v, %v; want %v", seed, players, g, ok, want)
			}
		}
	}
}

func TestNewGameFails(t *testing.T) {
	for _, seed := range someSeeds() {
		for _, players := range []int{0, 5, -1, 6, 12, 60, 256, 1 << 32, math.MaxInt, math.MinInt} {
			if g, ok := impl.NewGame(seed, players); ok || !isZeroGame(g) {
				t.Errorf("NewGame(%d, %d) = %v, %v", seed, players, g, ok)
			}
		}
	}
	for _, seed := range oddSeeds() {
		for players := -1; players <= impl.MaxPlayers+1; players++ {
			if g, ok := impl.NewGame(seed, players); ok || !isZeroGame(g) {
				t.Errorf("NewGame(%d, %d) = %v, %v", seed, players, g, ok)
			}
		}
	}
}

func TestGamesAreValid(t *testing.T) {
	for _, g := range someGames() {
		if !impl.IsGame(g) {
			t.Errorf("%v is no Game", g)
		}
	}
	for _, g := range oddGames() {
		if impl.IsGame(g) {
			t.Errorf("%v is a Game", g)
		}
	}
}

// Each number of a player is looked at, and only those in 0..MaxClaims are right.
func TestNumbersOfPlayers(t *testing.T) {
	for players := 1; players <= impl.MaxPlayers; players++ {
		for player := range players {
			for number := -3; number <= 64; number++ {
				inScores, inWrong := gameAt(impl.Deal{}, players), gameAt(impl.Deal{}, players)
				inScores.Scores[player] = number
				inWrong.Wrong[player] = number
				want := number >= 0 && number <= 60
				if impl.IsGame(inScores) != want || impl.IsGame(inWrong) != want {
					t.Errorf("%d of the player %d of %d: %v, %v", number, player, players, impl.IsGame(inScores), impl.IsGame(inWrong))
				}
			}
		}
	}
}

// Neither the points nor the lines that are missing on the table tell anything about each other.
func TestGamesNeedNotBePlayed(t *testing.T) {
	for _, g := range []impl.Game{
		{Scores: []int{60, 60, 60, 60}, Wrong: []int{60, 60, 60, 60}},
		{Deal: impl.Deal{Next: 81}, Scores: []int{0}, Wrong: []int{0}},
		{Deal: impl.Deal{Seed: 1, Next: 81, Laid: pileByExchange(1)}, Scores: []int{27, 3}, Wrong: []int{0, 60}},
	} {
		if !impl.IsGame(g) {
			t.Errorf("%v is no Game", g)
		}
	}
}

func TestFunctionsOfOddGamesFail(t *testing.T) {
	list := []impl.Claim{{Player: 0, Places: [3]int{0, 1, 2}}}
	for _, g := range oddGames() {
		if kind, ok := impl.ClaimKind(g, list[0]); ok || kind != 0 {
			t.Errorf("ClaimKind(%v) = %d, %v", g, kind, ok)
		}
		if next, kind, ok := impl.MakeClaim(g, list[0]); ok || kind != 0 || !isZeroGame(next) {
			t.Errorf("MakeClaim(%v) = %v, %d, %v", g, next, kind, ok)
		}
		for _, claims := range [][]impl.Claim{nil, list, slices.Repeat(list, 60)} {
			if behind, counts, ok := impl.RunClaims(g, claims); ok || counts != [4]int{} || !isZeroGame(behind) {
				t.Errorf("RunClaims(%v) = %v, %v, %v", g, behind, counts, ok)
			}
			if worth, ok := impl.WorthClaims(g, claims, 0); ok || worth != 0 {
				t.Errorf("WorthClaims(%v) = %d, %v", g, worth, ok)
			}
			if first, ok := impl.FirstRight(g, claims); ok || first != 0 {
				t.Errorf("FirstRight(%v) = %d, %v", g, first, ok)
			}
		}
		checkOddGamePoints(t, g)
	}
}

// checkOddGamePoints checks that nothing is told about the points of what is no Game.
func checkOddGamePoints(t *testing.T, g impl.Game) {
	if points, ok := impl.PointsOf(g); ok || len(points) != 0 {
		t.Errorf("PointsOf(%v) = %v, %v", g, points, ok)
	}
	if leaders, ok := impl.LeadersOf(g); ok || len(leaders) != 0 {
		t.Errorf("LeadersOf(%v) = %v, %v", g, leaders, ok)
	}
	if ahead, ok := impl.LinesAhead(g); ok || ahead != 0 {
		t.Errorf("LinesAhead(%v) = %d, %v", g, ahead, ok)
	}
	if rank, ok := impl.RankGame(g); ok || len(rank) != 0 {
		t.Errorf("RankGame(%v) = %v, %v", g, rank, ok)
	}
	for player := -1; player <= len(g.Scores); player++ {
		if can, ok := impl.CanLead(g, player); ok || can {
			t.Errorf("CanLead(%v, %d) = %v, %v", g, player, can, ok)
		}
	}
}
