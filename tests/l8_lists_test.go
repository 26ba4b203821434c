package tests

import (
	"slices"
	"testing"

	"loop.example/g01203/impl"
)

// listGames returns Games in which lists of Claims are made.
func listGames() []impl.Game {
	games := []impl.Game{}
	for i, g := range someGames() {
		if i%5 == 0 {
			games = append(games, g)
		}
	}
	for _, seed := range []int{0, 1, 92, impl.MaxSeed} {
		for players := 1; players <= impl.MaxPlayers; players++ {
			g, _ := impl.NewGame(seed, players)
			games = append(games, g)
		}
	}
	return games
}

func TestListsOfClaims(t *testing.T) {
	found, first := [4]int{}, map[int]bool{}
	for i, g := range listGames() {
		for _, size := range []int{0, 1, 2, 7, 30, 59, 60} {
			list := someList(g, size, i+size)
			want, kinds := claimsByOnes(g, list)
			counts := countsOf(kinds)
			behind, many, ok := impl.RunClaims(g, list)
			if !ok || many != counts || !sameGame(behind, want) || !impl.IsGame(behind) {
				t.Fatalf("RunClaims(%v, %v) = %v, %v, %v; want %v, %v", g, list, behind, many, ok, want, counts)
			}
			place := max(slices.Index(kinds, 1), 0)
			if at, ok := impl.FirstRight(g, list); ok != (counts[1] > 0) || at != place {
				t.Fatalf("FirstRight(%v, %v) = %d, %v; want %d", g, list, at, ok, place)
			}
			first[place] = true
			for kind, count := range counts {
				found[kind] += count
			}
		}
	}
	if found[0] != 0 || slices.Min(found[1:]) < 500 || len(first) < 4 {
		t.Errorf("Claims of lists: %v, first right ones at %v", found, first)
	}
}

// Claims of lists are made one after the other, as MakeClaim makes them.
func TestListsAreMadeOneAfterTheOther(t *testing.T) {
	for i, g := range listGames() {
		list := someList(g, impl.MaxClaims, i)
		at, counts := g, [4]int{}
		for n, c := range list {
			next, kind, ok := impl.MakeClaim(at, c)
			if !ok {
				t.Fatalf("MakeClaim(%v, %v) fails", at, c)
			}
			at = next
			counts[kind]++
			behind, many, ok := impl.RunClaims(g, list[:n+1])
			if !ok || many != counts || totalOf(many[:]) != n+1 || !sameGame(behind, at) {
				t.Fatalf("RunClaims(%v, %v) = %v, %v, %v; want %v, %v", g, list[:n+1], behind, many, ok, at, counts)
			}
			if n%10 > 0 {
				continue
			}
			// A list in two parts leads to the same Game as the whole one.
			half, _, _ := impl.RunClaims(g, list[:n/2])
			if rest, _, ok := impl.RunClaims(half, list[n/2:n+1]); !ok || !sameGame(rest, at) {
				t.Fatalf("RunClaims in two parts = %v, %v; want %v", rest, ok, at)
			}
		}
	}
}

// Without Claims nothing is made, and nothing laid ahead of it either.
func TestListsWithoutClaims(t *testing.T) {
	for _, g := range someGames() {
		for _, list := range [][]impl.Claim{nil, {}} {
			if behind, many, ok := impl.RunClaims(g, list); !ok || many != [4]int{} || !sameGame(behind, g) {
				t.Errorf("RunClaims of nothing of %v = %v, %v, %v", g, behind, many, ok)
			}
			if at, ok := impl.FirstRight(g, list); ok || at != 0 {
				t.Errorf("FirstRight of nothing = %d, %v", at, ok)
			}
			for player := range g.Scores {
				if worth, ok := impl.WorthClaims(g, list, player); !ok || worth != 0 {
					t.Errorf("WorthClaims of nothing = %d, %v", worth, ok)
				}
			}
		}
	}
}

// Lists of MaxClaims Claims are made, and those of one more are not.
func TestListsAsLongAsCanBe(t *testing.T) {
	right, wrong := impl.Claim{Places: [3]int{0, 1, 2}}, impl.Claim{Player: 1, Places: [3]int{0, 1, 3}}
	g := tableGame(0, 1, 2, 40, 41)
	list := append(slices.Repeat([]impl.Claim{wrong}, 59), right)
	behind, many, ok := impl.RunClaims(g, list)
	if !ok || many != [4]int{0, 1, 59, 0} || !slices.Equal(behind.Scores, []int{1, 0}) || !slices.Equal(behind.Wrong, []int{0, 59}) {
		t.Errorf("RunClaims of 60 = %v, %v, %v", behind, many, ok)
	}
	if at, ok := impl.FirstRight(g, list); !ok || at != 59 {
		t.Errorf("FirstRight of 60 = %d, %v", at, ok)
	}
	if worth, ok := impl.WorthClaims(g, list, 1); !ok || worth != -59 {
		t.Errorf("WorthClaims of 60 = %d, %v", worth, ok)
	}
	for _, size := range []int{61, 62, 120, 100000} {
		for _, c := range []impl.Claim{right, wrong, {Player: -1}} {
			long := slices.Repeat([]impl.Claim{c}, size)
			if behind, many, ok := impl.RunClaims(g, long); ok || many != [4]int{} || !isZeroGame(behind) {
				t.Errorf("RunClaims of %d = %v, %v, %v", size, behind, many, ok)
			}
			if at, ok := impl.FirstRight(g, long); ok || at != 0 {
				t.Errorf("FirstRight of %d = %d, %v", size, at, ok)
			}
			if worth, ok := impl.WorthClaims(g, long, 0); ok || worth != 0 {
				t.Errorf("WorthClaims of %d = %d, %v", size, worth, ok)
			}
		}
	}
}

func TestKnownLists(t *testing.T) {
	right, other := impl.Claim{Player: 0, Places: [3]int{0, 1, 2}}, impl.Claim{Player: 1, Places: [3]int{0, 1, 2}}
	idle, wrong := impl.Claim{Player: 5, Places: [3]int{0, 1, 2}}, impl.Claim{Player: 1, Places: [3]int{0, 1, 3}}
	for _, one := range []struct {
		list  []impl.Claim
		many  [4]int
		laid  []int
		worth [2]int
		first int
	}{
		{[]impl.Claim{right}, [4]int{0, 1, 0, 0}, []int{27, 28, 29, 40}, [2]int{1, 0}, 0},
		{[]impl.Claim{idle, wrong, right}, [4]int{0, 1, 1, 1}, []int{27, 28, 29, 40}, [2]int{1, -1}, 2},
		// Behind a line, the same places are those of other cards.
		{[]impl.Claim{right, other}, [4]int{0, 2, 0, 0}, []int{40}, [2]int{1, 1}, 0},
		{[]impl.Claim{right, right, right}, [4]int{0, 2, 0, 1}, []int{40}, [2]int{2, 0}, 0},
		{[]impl.Claim{wrong, right, wrong}, [4]int{0, 1, 2, 0}, []int{27, 28, 29, 40}, [2]int{1, -2}, 1},
		{[]impl.Claim{wrong, wrong, idle}, [4]int{0, 0, 2, 1}, []int{0, 1, 2, 27, 28, 29, 40}, [2]int{0, -2}, -1},
		{[]impl.Claim{idle}, [4]int{0, 0, 0, 1}, []int{0, 1, 2, 27, 28, 29, 40}, [2]int{0, 0}, -1},
	} {
		g := tableGame(0, 1, 2, 27, 28, 29, 40)
		behind, many, ok := impl.RunClaims(g, one.list)
		if !ok || many != one.many || !slices.Equal(behind.Deal.Laid, handOf(one.laid...)) {
			t.Errorf("RunClaims of %v = %v, %v, %v", one.list, behind, many, ok)
		}
		if at, ok := impl.FirstRight(g, one.list); ok != (one.first >= 0) || at != max(one.first, 0) {
			t.Errorf("FirstRight of %v = %d, %v", one.list, at, ok)
		}
		for player, want := range one.worth {
			if worth, ok := impl.WorthClaims(g, one.list, player); !ok || worth != want {
				t.Errorf("WorthClaims of %v for %d = %d, %v; want %d", one.list, player, worth, ok, want)
			}
		}
	}
}

// What is right only when cards have been laid ahead of it counts as right in lists too.
func TestListsOfStuckDeals(t *testing.T) {
	g := gameAt(lateDeal(), 2)
	list := []impl.Claim{{Player: -1}, {Player: 1, Places: [3]int{1, 2, 3}}, {Player: 1, Places: [3]int{0, 1, 2}}}
	if at, ok := impl.FirstRight(g, list); !ok || at != 2 {
		t.Errorf("FirstRight = %d, %v", at, ok)
	}
	if at, ok := impl.FirstRight(g, list[2:]); !ok || at != 0 {
		t.Errorf("FirstRight of the last one = %d, %v", at, ok)
	}
	behind, many, ok := impl.RunClaims(g, list)
	if !ok || many != [4]int{0, 1, 1, 1} || !slices.Equal(behind.Deal.Laid, handOf(17)) || !slices.Equal(behind.Scores, []int{0, 1}) {
		t.Errorf("RunClaims = %v, %v, %v", behind, many, ok)
	}
}

func TestWorthOfClaims(t *testing.T) {
	less, more := 0, 0
	for i, g := range listGames() {
		list := someList(g, 40, 3*i)
		behind, _ := claimsByOnes(g, list)
		for player := range g.Scores {
			want := behind.Scores[player] - behind.Wrong[player] - g.Scores[player] + g.Wrong[player]
			if worth, ok := impl.WorthClaims(g, list, player); !ok || worth != want {
				t.Fatalf("WorthClaims(%v, %v, %d) = %d, %v; want %d", g, list, player, worth, ok, want)
			}
			if want < 0 {
				less++
			} else if want > 0 {
				more++
			}
		}
		for _, player := range otherPlayers(len(g.Scores)) {
			if worth, ok := impl.WorthClaims(g, list, player); ok || worth != 0 {
				t.Errorf("WorthClaims for the player %d of %d = %d, %v", player, len(g.Scores), worth, ok)
			}
		}
	}
	if less < 20 || more < 20 {
		t.Errorf("the points are %d times less, and %d times more", less, more)
	}
}

// Claims by which a number would be more than MaxClaims are worth nothing.
func TestWorthOfClaimsAtTheGreatest(t *testing.T) {
	g := tableGame(0, 1, 2, 40)
	g.Scores, g.Wrong = []int{60, 59}, []int{59, 60}
	right, wrong := [3]int{0, 1, 2}, [3]int{0, 1, 3}
	for _, one := range []struct {
		player int
		list   []impl.Claim
		want   int
	}{
		{0, []impl.Claim{{Player: 0, Places: right}}, 0},
		{1, []impl.Claim{{Player: 1, Places: right}}, 1},
		{0, []impl.Claim{{Player: 0, Places: wrong}, {Player: 0, Places: wrong}}, -1},
		{1, []impl.Claim{{Player: 1, Places: wrong}, {Player: 1, Places: wrong}}, 0},
	} {
		if worth, ok := impl.WorthClaims(g, one.list, one.player); !ok || worth != one.want {
			t.Errorf("WorthClaims of %v for %d = %d, %v; want %d", one.list, one.player, worth, ok, one.want)
		}
	}
}

// In whole games that are played by right Claims, the sum of all Scores grows by 1 with each, and
// the sum of all cards stays.
func TestGamesOfRightClaims(t *testing.T) {
	for _, seed := range someSeeds() {
		g, ok := impl.NewGame(seed, 3)
		list := []impl.Claim{}
		for at := g; ok; {
			lines := linesByTraits(laidOn(at.Deal).Laid)
			if len(lines) == 0 {
				break
			}
			c := impl.Claim{Player: len(list) % 3, Places: lines[0]}
			list = append(list, c)
			at, _, ok = impl.MakeClaim(at, c)
			if !ok || totalOf(at.Scores) != len(list) || sumOf(restOf(at.Deal)) != [4]int{} {
				t.Fatalf("the game of %d behind %d Claims: %v, %v", seed, len(list), at, ok)
			}
		}
		behind, many, ok := impl.RunClaims(g, list)
		taken, _, last, fine := impl.PlayDeal(seed)
		if !ok || !fine || many != [4]int{0, len(list), 0, 0} || len(list) != taken || len(laidOn(behind.Deal).Laid) != len(last) {
			t.Errorf("the game of %d: %v, %v behind %d lines; want %d", seed, behind, many, len(list), taken)
		}
	}
}

// With all cards on the table, no card is laid any more, and lines are taken from 1080 on.
func TestClaimsOfAllCards(t *testing.T) {
	g := gameAt(impl.Deal{Seed: 1, Next: 81, Laid: pileByExchange(1)}, 1)
	at, list := g.Deal, []impl.Claim{}
	for lines := linesByTraits(at.Laid); len(lines) > 0; lines = linesByTraits(at.Laid) {
		list = append(list, impl.Claim{Places: lines[len(lines)/2]})
		at = takeByOnes(at, lines[len(lines)/2])
	}
	behind, many, ok := impl.RunClaims(g, list)
	if !ok || many != [4]int{0, len(list), 0, 0} || !sameDeal(behind.Deal, at) || len(at.Laid) != 81-3*len(list) {
		t.Errorf("RunClaims of all cards = %v, %v, %v; want %v behind %d lines", behind, many, ok, at, len(list))
	}
}
