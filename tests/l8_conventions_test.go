package tests

import (
	"fmt"
	"math"
	"slices"
	"testing"

	"loop.example/g01203/impl"
)

// gameCalls are all functions of chapter 8 that take a Game, each as one that tells all of its
// results.
func gameCalls() map[string]func(impl.Game) string {
	calls := map[string]func(impl.Game) string{
		"IsGame":     func(g impl.Game) string { return tell(impl.IsGame(g)) },
		"PointsOf":   func(g impl.Game) string { points, ok := impl.PointsOf(g); return tell(points, ok) },
		"LeadersOf":  func(g impl.Game) string { leaders, ok := impl.LeadersOf(g); return tell(leaders, ok) },
		"LinesAhead": func(g impl.Game) string { ahead, ok := impl.LinesAhead(g); return tell(ahead, ok) },
		"RankGame":   func(g impl.Game) string { rank, ok := impl.RankGame(g); return tell(rank, ok) },
	}
	for _, player := range []int{math.MinInt, -1, 0, 1, 3, 4, math.MaxInt} {
		calls[fmt.Sprint("CanLead ", player)] = func(g impl.Game) string { can, ok := impl.CanLead(g, player); return tell(can, ok) }
	}
	for _, c := range []impl.Claim{
		{Places: [3]int{0, 1, 2}}, {Player: 1, Places: [3]int{0, 1, 3}}, {Player: 3, Places: [3]int{0, 2, 5}}, {Player: -1},
		{Player: math.MaxInt, Places: [3]int{math.MinInt, 0, math.MaxInt}},
	} {
		calls[fmt.Sprint("ClaimKind ", c)] = func(g impl.Game) string { kind, ok := impl.ClaimKind(g, c); return tell(kind, ok) }
		calls[fmt.Sprint("MakeClaim ", c)] = func(g impl.Game) string {
			next, kind, ok := impl.MakeClaim(g, c)
			return tell(next, kind, ok)
		}
		addListCalls(calls, []impl.Claim{c, c, {Places: [3]int{0, 1, 2}}})
	}
	addListCalls(calls, nil)
	addListCalls(calls, make([]impl.Claim, 61))
	return calls
}

// addListCalls adds all functions of chapter 8 that take a list of Claims.
func addListCalls(calls map[string]func(impl.Game) string, list []impl.Claim) {
	calls[fmt.Sprint("RunClaims ", list)] = func(g impl.Game) string {
		behind, many, ok := impl.RunClaims(g, list)
		return tell(behind, many, ok)
	}
	calls[fmt.Sprint("WorthClaims ", list)] = func(g impl.Game) string {
		worth, ok := impl.WorthClaims(g, list, 0)
		return tell(worth, ok)
	}
	calls[fmt.Sprint("FirstRight ", list)] = func(g impl.Game) string { at, ok := impl.FirstRight(g, list); return tell(at, ok) }
}

// withSpare returns the same list in memory of its own, with some more behind it that a careless
// append would write to.
func withSpare[T any](list []T, spare T) []T {
	backing := append(slices.Clone(list), slices.Repeat([]T{spare}, 12)...)
	return backing[:len(list)]
}

// spareGame returns the same Game with spare memory behind each of its lists.
func spareGame(g impl.Game) impl.Game {
	g.Deal.Laid = withSpare(g.Deal.Laid, [4]int{7, 7, 7, 7})
	g.Scores = withSpare(g.Scores, 77)
	g.Wrong = withSpare(g.Wrong, 78)
	return g
}

// wholeGame returns a Game with the memory behind its lists, too.
func wholeGame(g impl.Game) impl.Game {
	g.Deal.Laid = g.Deal.Laid[:cap(g.Deal.Laid)]
	g.Scores = g.Scores[:cap(g.Scores)]
	g.Wrong = g.Wrong[:cap(g.Wrong)]
	return g
}

// hugeGames returns Games with very long lists, none of which is valid.
func hugeGames() []impl.Game {
	lined := impl.Deal{Seed: 1, Next: 81, Laid: handOf(0, 1, 2, 40)}
	cards := lined
	cards.Laid = slices.Repeat(allCards(), 1000)
	return []impl.Game{
		gameAt(lined, 100000), gameAt(cards, 2), {Deal: lined, Scores: []int{0, 0}, Wrong: make([]int, 100000)},
		{Deal: lined, Scores: make([]int, 100000), Wrong: []int{0, 0}},
	}
}

func TestGameFunctionsReturnAndLeaveTheirArguments(t *testing.T) {
	games := append(append(someGames(), oddGames()...), hugeGames()...)
	for name, call := range gameCalls() {
		for _, g := range games {
			spare := spareGame(g)
			before := ownGame(wholeGame(spare))
			first := call(spare)
			if again := call(spare); again != first {
				t.Errorf("%s: %s and %s", name, first, again)
			}
			if !sameGame(wholeGame(spare), before) {
				t.Errorf("%s has changed %v to %v", name, before, wholeGame(spare))
			}
		}
	}
}

func TestNewGameReturnsTheSame(t *testing.T) {
	for _, seed := range append(someSeeds(), oddSeeds()...) {
		for players := -1; players <= impl.MaxPlayers+1; players++ {
			first, ok := impl.NewGame(seed, players)
			again, fine := impl.NewGame(seed, players)
			if ok != fine || !sameGame(first, again) {
				t.Errorf("NewGame(%d, %d): %v, %v and %v, %v", seed, players, first, ok, again, fine)
			}
		}
	}
}

// Lists of Claims stay as they are, and so does the memory behind them.
func TestListsOfClaimsAreLeft(t *testing.T) {
	for i, g := range append(listGames(), oddGames()[:20]...) {
		list := make([]impl.Claim, 61+i%2*1000)
		if impl.IsGame(g) {
			list = someList(g, 20, i)
		}
		list = withSpare(list, impl.Claim{Player: 9, Places: [3]int{9, 9, 9}})
		before := slices.Clone(list[:cap(list)])
		impl.RunClaims(g, list)
		impl.WorthClaims(g, list, 0)
		impl.FirstRight(g, list)
		if !slices.Equal(list[:cap(list)], before) {
			t.Errorf("%v has become %v", before, list[:cap(list)])
		}
	}
}

// spoil writes to all memory of a Game, and behind its lists.
func spoil(g impl.Game) {
	g = wholeGame(g)
	for i := range g.Deal.Laid {
		g.Deal.Laid[i] = [4]int{9, 9, 9, 9}
	}
	for i := range g.Scores {
		g.Scores[i] = 99
	}
	for i := range g.Wrong {
		g.Wrong[i] = 98
	}
}

// Games that are results can be written to: neither an argument nor another result changes.
func TestGamesShareNoMemory(t *testing.T) {
	lined, open := tableGame(0, 1, 2, 40), gameAt(lateDeal(), 2)
	right, wrong := impl.Claim{Places: [3]int{0, 1, 2}}, impl.Claim{Places: [3]int{0, 1, 3}}
	for name, result := range map[string]func() impl.Game{
		"NewGame":                 func() impl.Game { g, _ := impl.NewGame(1, 2); return g },
		"MakeClaim, right":        func() impl.Game { g, _, _ := impl.MakeClaim(lined, right); return g },
		"MakeClaim, wrong":        func() impl.Game { g, _, _ := impl.MakeClaim(lined, wrong); return g },
		"MakeClaim, idle":         func() impl.Game { g, _, _ := impl.MakeClaim(lined, impl.Claim{Player: 2}); return g },
		"MakeClaim behind laying": func() impl.Game { g, _, _ := impl.MakeClaim(open, wrong); return g },
		"RunClaims of none":       func() impl.Game { g, _, _ := impl.RunClaims(lined, nil); return g },
		"RunClaims of two":        func() impl.Game { g, _, _ := impl.RunClaims(lined, []impl.Claim{wrong, right}); return g },
	} {
		first, second := result(), result()
		want := ownGame(first)
		spoil(first)
		if !impl.IsGame(want) || !sameGame(second, want) || !sameGame(result(), want) {
			t.Errorf("%s: %v and %v; want %v", name, second, result(), want)
		}
		// The Scores and the Wrong of one Game are not the same memory either.
		for i := range second.Scores[:cap(second.Scores)] {
			second.Scores[:cap(second.Scores)][i] = 99
		}
		if !slices.Equal(second.Wrong, want.Wrong) || !slices.Equal(second.Deal.Laid, want.Deal.Laid) {
			t.Errorf("%s: %v; want %v", name, second, want)
		}
	}
	if !sameGame(lined, tableGame(0, 1, 2, 40)) || !sameGame(open, gameAt(lateDeal(), 2)) {
		t.Errorf("%v and %v have been changed", lined, open)
	}
}

func TestListsOfPlayersShareNoMemory(t *testing.T) {
	g := impl.Game{Scores: []int{3, 1, 3}, Wrong: []int{0, 0, 0}}
	for name, result := range map[string]func() []int{
		"PointsOf":  func() []int { points, _ := impl.PointsOf(g); return points },
		"LeadersOf": func() []int { leaders, _ := impl.LeadersOf(g); return leaders },
		"RankGame":  func() []int { rank, _ := impl.RankGame(g); return rank },
	} {
		first, second := result(), result()
		want := slices.Clone(first)
		first = first[:cap(first)]
		for i := range first {
			first[i] = 99
		}
		if len(want) == 0 || !slices.Equal(second, want) || !slices.Equal(result(), want) {
			t.Errorf("%s: %v and %v; want %v", name, second, result(), want)
		}
	}
	if !slices.Equal(g.Scores, []int{3, 1, 3}) || !slices.Equal(g.Wrong, []int{0, 0, 0}) {
		t.Errorf("%v has been changed", g)
	}
}
