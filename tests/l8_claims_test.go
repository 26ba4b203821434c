package tests

import (
	"slices"
	"testing"

	"loop.example/g01203/impl"
)

func TestKindsOfClaims(t *testing.T) {
	found := [4]int{}
	for _, g := range someGames() {
		for _, c := range someClaims(g) {
			want := kindByTraits(g, c)
			found[want]++
			if kind, ok := impl.ClaimKind(g, c); !ok || kind != want {
				t.Fatalf("ClaimKind(%v, %v) = %d, %v; want %d", g, c, kind, ok, want)
			}
		}
	}
	if found[0] != 0 || slices.Min(found[1:]) < 100 {
		t.Errorf("kinds of claims: %v", found)
	}
}

// Of all places around a table, lines in ascending order are right, and other ones wrong.
func TestClaimsOfAllPlaces(t *testing.T) {
	for _, numbers := range [][]int{{8, 3, 0, 1, 2, 4}, {0, 1, 3, 4, 9}, {0, 1, 2}, {2, 1}, {}} {
		g := tableGame(numbers...)
		lines := linesByTraits(g.Deal.Laid)
		n := len(numbers)
		for player := -2; player <= 3; player++ {
			for i := -2; i < n+2; i++ {
				for j := -2; j < n+2; j++ {
					for k := -2; k < n+2; k++ {
						c := impl.Claim{Player: player, Places: [3]int{i, j, k}}
						want := 3
						if player == 0 || player == 1 {
							if slices.Contains(lines, c.Places) {
								want = 1
							} else if 0 <= i && i < j && j < k && k < n {
								want = 2
							}
						}
						if kind, ok := impl.ClaimKind(g, c); !ok || kind != want {
							t.Fatalf("ClaimKind of %v on %v = %d, %v; want %d", c, numbers, kind, ok, want)
						}
					}
				}
			}
		}
	}
}

func TestMakingClaims(t *testing.T) {
	found, laid, over := [4]int{}, 0, 0
	for _, g := range someGames() {
		for _, c := range someClaims(g) {
			want, wantKind := claimByOnes(g, c)
			next, kind, ok := impl.MakeClaim(g, c)
			if !ok || kind != wantKind || !sameGame(next, want) || !impl.IsGame(next) {
				t.Fatalf("MakeClaim(%v, %v) = %v, %d, %v; want %v, %d", g, c, next, kind, ok, want, wantKind)
			}
			found[kind]++
			if kind != 1 && next.Deal.Next > g.Deal.Next {
				laid++
			}
			if next.Deal.Next == 81 && len(linesByTraits(next.Deal.Laid)) == 0 {
				over++
			}
		}
	}
	if slices.Min(found[1:]) < 100 || laid < 100 || over < 100 {
		t.Errorf("kinds %v, %d times cards laid, %d times over", found, laid, over)
	}
}

// The Claims and the Games behind them that are told here were worked out beside the program.
func TestKnownClaims(t *testing.T) {
	table := tableGame(0, 1, 2, 40)
	for _, one := range []struct {
		player        int
		places        [3]int
		kind          int
		laid          []int
		scores, wrong []int
	}{
		{0, [3]int{0, 1, 2}, 1, []int{40}, []int{1, 0}, []int{0, 0}},
		{1, [3]int{0, 1, 2}, 1, []int{40}, []int{0, 1}, []int{0, 0}},
		{1, [3]int{0, 1, 3}, 2, []int{0, 1, 2, 40}, []int{0, 0}, []int{0, 1}},
		{0, [3]int{1, 2, 3}, 2, []int{0, 1, 2, 40}, []int{0, 0}, []int{1, 0}},
		{2, [3]int{0, 1, 2}, 3, []int{0, 1, 2, 40}, []int{0, 0}, []int{0, 0}},
		{-1, [3]int{0, 1, 3}, 3, []int{0, 1, 2, 40}, []int{0, 0}, []int{0, 0}},
		{0, [3]int{0, 2, 1}, 3, []int{0, 1, 2, 40}, []int{0, 0}, []int{0, 0}},
		{0, [3]int{0, 0, 0}, 3, []int{0, 1, 2, 40}, []int{0, 0}, []int{0, 0}},
		{0, [3]int{2, 3, 4}, 3, []int{0, 1, 2, 40}, []int{0, 0}, []int{0, 0}},
	} {
		c := impl.Claim{Player: one.player, Places: one.places}
		want := tableGame(one.laid...)
		want.Scores, want.Wrong = one.scores, one.wrong
		if next, kind, ok := impl.MakeClaim(table, c); !ok || kind != one.kind || !sameGame(next, want) {
			t.Errorf("MakeClaim of %v = %v, %d, %v; want %v, %d", c, next, kind, ok, want, one.kind)
		}
		if kind, ok := impl.ClaimKind(table, c); !ok || kind != one.kind {
			t.Errorf("ClaimKind of %v = %d, %v; want %d", c, kind, ok, one.kind)
		}
	}
}

// ClaimKind looks at the Deal as it is; MakeClaim does so when cards have been laid.
func TestClaimsOfStuckDeals(t *testing.T) {
	g := gameAt(lateDeal(), 2)
	all := handOf(10, 75, 35, 17)
	for _, one := range []struct {
		c             impl.Claim
		before, after int
		laid          [][4]int
	}{
		{impl.Claim{Player: 0, Places: [3]int{0, 1, 2}}, 3, 1, handOf(17)},
		{impl.Claim{Player: 0, Places: [3]int{1, 2, 3}}, 3, 2, all},
		{impl.Claim{Player: 0, Places: [3]int{1, 2, 4}}, 3, 3, all},
		{impl.Claim{Player: 2, Places: [3]int{0, 1, 2}}, 3, 3, all},
	} {
		if kind, ok := impl.ClaimKind(g, one.c); !ok || kind != one.before {
			t.Errorf("ClaimKind of %v = %d, %v", one.c, kind, ok)
		}
		next, kind, ok := impl.MakeClaim(g, one.c)
		if !ok || kind != one.after || next.Deal.Next != 81 || !slices.Equal(next.Deal.Laid, one.laid) {
			t.Errorf("MakeClaim of %v = %v, %d, %v", one.c, next, kind, ok)
		}
	}
	// From an empty table, cards are laid three at a time until there is a line.
	empty := gameAt(impl.Deal{}, 1)
	next, _, ok := impl.MakeClaim(empty, impl.Claim{Player: -1})
	want := laidOn(impl.Deal{})
	if !ok || want.Next%3 != 0 || want.Next < 6 || len(linesByTraits(want.Laid[:want.Next-3])) > 0 || !sameDeal(next.Deal, want) {
		t.Errorf("a Claim on an empty table: %v, %v; want %v", next, ok, want)
	}
}

// A Deal that is over stays as it is; a place of it can still be claimed wrongly.
func TestClaimsOfDealsThatAreOver(t *testing.T) {
	for _, laid := range [][][4]int{{}, handOf(5), handOf(0, 1, 3), greatCap()} {
		g := gameAt(impl.Deal{Seed: 1, Next: 81, Laid: laid}, 3)
		for _, c := range someClaims(g) {
			next, kind, ok := impl.MakeClaim(g, c)
			if !ok || kind == 1 || !sameDeal(next.Deal, g.Deal) || kind == 3 && !sameGame(next, g) {
				t.Errorf("MakeClaim(%v, %v) = %v, %d, %v", g, c, next, kind, ok)
			}
		}
	}
	over := tableGame(0, 1, 3)
	next, kind, ok := impl.MakeClaim(over, impl.Claim{Player: 1, Places: [3]int{0, 1, 2}})
	if !ok || kind != 2 || !slices.Equal(next.Wrong, []int{0, 1}) || !slices.Equal(next.Scores, []int{0, 0}) {
		t.Errorf("a wrong Claim on a table that is over: %v, %d, %v", next, kind, ok)
	}
}

// A number that would be more than MaxClaims stays, but the line is taken all the same.
func TestNumbersStayAtTheirGreatest(t *testing.T) {
	for number, want := range map[int]int{0: 1, 58: 59, 59: 60, 60: 60} {
		g := tableGame(0, 1, 2, 40)
		g.Scores, g.Wrong = []int{5, number}, []int{number, 7}
		right, kind, ok := impl.MakeClaim(g, impl.Claim{Player: 1, Places: [3]int{0, 1, 2}})
		if !ok || kind != 1 || !slices.Equal(right.Scores, []int{5, want}) || !slices.Equal(right.Wrong, g.Wrong) || len(right.Deal.Laid) != 1 {
			t.Errorf("a right Claim behind %d: %v, %d, %v", number, right, kind, ok)
		}
		wrong, kind, ok := impl.MakeClaim(g, impl.Claim{Player: 0, Places: [3]int{0, 1, 3}})
		if !ok || kind != 2 || !slices.Equal(wrong.Wrong, []int{want, 7}) || !slices.Equal(wrong.Scores, g.Scores) || !sameDeal(wrong.Deal, g.Deal) {
			t.Errorf("a wrong Claim behind %d: %v, %d, %v", number, wrong, kind, ok)
		}
	}
}

// The sum of all Scores grows by 1 for each Claim that is right and whose Player has fewer than
// MaxClaims lines, and right Claims leave the sum of all cards that are there.
func TestRightClaimsGrowScoresAndKeepTheSum(t *testing.T) {
	grown, stayed := 0, 0
	for _, g := range someGames() {
		for _, c := range someClaims(g) {
			next, kind, ok := impl.MakeClaim(g, c)
			want := totalOf(g.Scores)
			if kind == 1 && g.Scores[c.Player] < impl.MaxClaims {
				want++
				grown++
			} else if kind == 1 {
				stayed++
			}
			if !ok || totalOf(next.Scores) != want {
				t.Fatalf("the Scores of %v behind %v are %v; want %d together", g, c, next.Scores, want)
			}
			if sumOf(restOf(next.Deal)) != sumOf(restOf(g.Deal)) {
				t.Fatalf("MakeClaim(%v, %v) = %v has another sum", g, c, next)
			}
		}
	}
	if grown < 100 || stayed < 20 {
		t.Errorf("Scores have grown %d times, and stayed %d times", grown, stayed)
	}
}

func totalOf(numbers []int) int {
	total := 0
	for _, number := range numbers {
		total += number
	}
	return total
}
