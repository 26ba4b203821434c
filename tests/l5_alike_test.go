package tests

import (
	"slices"
	"testing"

	"loop.example/g01203/impl"
)

// firstOf returns the first one of these Maps by which the image of g is h, and whether there
// is one.
func firstOf(maps []impl.Map, g, h [][4]int) (impl.Map, bool) {
	for _, m := range maps {
		if slices.Equal(imagesByTraits(m, g), h) {
			return m, true
		}
	}
	return impl.Map{}, false
}

// leastImage returns the least image of a hand by one of these Maps.
func leastImage(maps []impl.Map, h [][4]int) [][4]int {
	least := h
	for _, m := range maps {
		image := imagesByTraits(m, h)
		if slices.CompareFunc(image, least, func(a, b [4]int) int { return slices.Compare(a[:], b[:]) }) < 0 {
			least = image
		}
	}
	return least
}

// greaterHands returns hands of more than MaxAlike cards, from MaxAlike + 1 on.
func greaterHands() [][][4]int {
	hands := [][][4]int{handOf(0, 1, 2, 3, 4, 5, 6), handOf(74, 75, 76, 77, 78, 79, 80), lowCap(), greatCap()}
	for _, h := range someHands() {
		if len(h) > impl.MaxAlike {
			hands = append(hands, h)
		}
	}
	return hands
}

func TestFirstLooks(t *testing.T) {
	maps := everyMap()
	for _, h := range smallHands() {
		want := leastImage(maps, h)
		if look, ok := impl.FirstLook(h); !ok || !slices.Equal(look, want) {
			t.Errorf("FirstLook(%v) = %v, %v; want %v", h, look, ok, want)
		}
	}
	for _, h := range append(oddHands(), greaterHands()...) {
		if look, ok := impl.FirstLook(h); ok || len(look) != 0 {
			t.Errorf("FirstLook(%v) = %v, %v", h, look, ok)
		}
	}
}

// First looks that were worked out beside the program.
func TestKnownFirstLooks(t *testing.T) {
	for _, one := range []struct{ h, want [][4]int }{
		{nil, nil},
		{handOf(67), handOf(0)},
		{handOf(0, 27), handOf(0, 1)},
		{handOf(40, 80), handOf(0, 40)},
		{handOf(2, 29, 56), handOf(0, 1, 2)},
		{handOf(5, 42, 73), handOf(0, 40, 80)},
		{handOf(5, 45, 73), handOf(0, 4, 44)},
		{handOf(26, 53, 80), handOf(0, 1, 2)},
		{handOf(0, 9, 27), handOf(0, 1, 3)},
		{handOf(0, 9, 27, 36), handOf(0, 1, 3, 4)},
	} {
		look, ok := impl.FirstLook(one.h)
		if !ok || !slices.Equal(look, one.want) {
			t.Errorf("FirstLook(%v) = %v, %v; want %v", one.h, look, ok, one.want)
		}
	}
}

// A first look is the same for all images of a hand, and its own first look.
func TestFirstLooksOfImages(t *testing.T) {
	maps := someMaps()
	for i, h := range smallHands() {
		look, ok := impl.FirstLook(h)
		if again, fine := impl.FirstLook(look); !ok || !fine || !slices.Equal(again, look) {
			t.Errorf("FirstLook(%v) = %v, %v", look, again, fine)
		}
		for _, j := range []int{i + 2, 3*i + 50, 2*i + 100} {
			image := imagesByTraits(maps[j%len(maps)], h)
			if again, ok := impl.FirstLook(image); !ok || !slices.Equal(again, look) {
				t.Errorf("FirstLook(%v) = %v, %v; want %v, that of %v", image, again, ok, look, h)
			}
		}
	}
}

// Hands are alike exactly if they have one first look, and if they have the same shape.
func TestHandsAreAlikeIfTheirFirstLooksAreTheSame(t *testing.T) {
	hands := smallHands()
	looks, shapes := [][][4]int{}, []string{}
	for _, h := range hands {
		look, ok := impl.FirstLook(h)
		if !ok {
			t.Fatalf("FirstLook(%v) fails", h)
		}
		looks = append(looks, look)
		shapes = append(shapes, shapeOf(h))
	}
	pairs := 0
	for i, g := range hands {
		for j, h := range hands {
			alike, ok := impl.AreAlike(g, h)
			if !ok || alike != slices.Equal(looks[i], looks[j]) || alike != (shapes[i] == shapes[j]) {
				t.Errorf("AreAlike(%v, %v) = %v, %v; they look like %v and %v, %s and %s", g, h, alike, ok, looks[i], looks[j], shapes[i], shapes[j])
			}
			if alike && i < j {
				pairs++
			}
		}
	}
	if pairs < 20 {
		t.Errorf("only %d pairs are alike", pairs)
	}
}

// Two cards each are alike exactly if they differ in as many traits.
func TestPairsThatAreAlike(t *testing.T) {
	cards := allCards()
	for number := 1; number < 81; number++ {
		other := handOf((number*7)%80, 80)
		for _, g := range [][][4]int{handOf(0, 1), handOf(0, 4), handOf(0, 13), handOf(0, 40), other} {
			h := handOf(0, number)
			one, _ := impl.DifferIn(g[0], g[1])
			two, _ := impl.DifferIn(cards[0], cards[number])
			if alike, ok := impl.AreAlike(g, h); !ok || alike != (one == two) {
				t.Errorf("AreAlike(%v, %v) = %v, %v", g, h, alike, ok)
			}
		}
	}
}

func TestKnownHandsThatAreAlike(t *testing.T) {
	for _, one := range []struct {
		g, h [][4]int
		want bool
	}{
		{nil, nil, true},
		{nil, handOf(0), false},
		{handOf(0, 1), handOf(0), false},
		{handOf(0), handOf(80), true},
		{handOf(0, 1, 2), handOf(53, 71, 80), false},
		{handOf(0, 1, 2), handOf(62, 71, 80), true},
		{handOf(0, 4, 8), handOf(0, 28, 56), true},
		{handOf(0, 1, 2), handOf(0, 4, 8), false},
		{handOf(0, 4, 8), handOf(0, 13, 26), false},
		{handOf(0, 13, 26), handOf(0, 40, 80), false},
		{handOf(0, 1, 2), handOf(0, 1, 2, 3), false},
		{handOf(0, 1, 2, 3), handOf(0, 1, 3, 4), false},
		{handOf(0, 1, 2, 3, 4, 5), handOf(75, 76, 77, 78, 79, 80), true},
		{handOf(0, 1, 2, 3, 4, 5), handOf(0, 1, 2, 3, 4, 6), false},
		{handOf(0, 1, 2, 3, 4, 5), handOf(0, 1, 2, 3, 4), false},
	} {
		if alike, ok := impl.AreAlike(one.g, one.h); !ok || alike != one.want {
			t.Errorf("AreAlike(%v, %v) = %v, %v", one.g, one.h, alike, ok)
		}
	}
}

// checkFirstMap checks FirstMap, and that its image is h, against all Maps.
func checkFirstMap(t *testing.T, maps []impl.Map, g, h [][4]int) {
	t.Helper()
	want, there := firstOf(maps, g, h)
	m, ok := impl.FirstMap(g, h)
	if ok != there || m != want {
		t.Errorf("FirstMap(%v, %v) = %v, %v; want %v, %v", g, h, m, ok, want, there)
	}
	if alike, ok := impl.AreAlike(g, h); !ok || alike != there {
		t.Errorf("AreAlike(%v, %v) = %v, %v", g, h, alike, ok)
	}
}

func TestFirstMaps(t *testing.T) {
	maps := everyMap()
	hands := smallHands()
	for i, g := range hands {
		for _, j := range []int{i, 5*i + 1, 31*i + 9, 60*i + 17} {
			m := maps[(j*j*331+j)%len(maps)]
			checkFirstMap(t, maps, g, imagesByTraits(m, g))
		}
		checkFirstMap(t, maps, g, hands[(i+1)%len(hands)])
		if m, ok := impl.FirstMap(g, g); !ok || m != stay() {
			t.Errorf("FirstMap(%v, %v) = %v, %v", g, g, m, ok)
		}
	}
}

// Maps that were worked out beside the program.
func TestKnownFirstMaps(t *testing.T) {
	turned := [3]int{1, 0, 2}
	for _, one := range []struct {
		g, h [][4]int
		want impl.Map
	}{
		{nil, nil, stay()},
		{handOf(0), handOf(0), stay()},
		{handOf(1), handOf(0), impl.Map{Traits: stay().Traits, Values: [4][3]int{sameValues, sameValues, sameValues, turned}}},
		{handOf(0), handOf(2), impl.Map{Traits: stay().Traits, Values: [4][3]int{sameValues, sameValues, sameValues, {2, 0, 1}}}},
		{handOf(0, 1), handOf(0, 3), impl.Map{Traits: [4]int{0, 1, 3, 2}, Values: stay().Values}},
		{handOf(0, 1), handOf(0, 27), impl.Map{Traits: [4]int{3, 0, 1, 2}, Values: stay().Values}},
		{handOf(0, 27), handOf(0, 1), impl.Map{Traits: [4]int{1, 2, 3, 0}, Values: stay().Values}},
		{handOf(0, 1, 2), handOf(3, 4, 5), impl.Map{Traits: stay().Traits, Values: [4][3]int{sameValues, sameValues, turned, sameValues}}},
	} {
		if m, ok := impl.FirstMap(one.g, one.h); !ok || m != one.want {
			t.Errorf("FirstMap(%v, %v) = %v, %v; want %v", one.g, one.h, m, ok, one.want)
		}
	}
	for _, one := range [][2][][4]int{{nil, handOf(0)}, {handOf(0, 1), handOf(0)}, {handOf(0, 1), handOf(0, 4)}, {handOf(0, 1, 2), handOf(0, 1, 3)}, {handOf(0, 1, 2), handOf(0, 40, 80)}} {
		if m, ok := impl.FirstMap(one[0], one[1]); ok || m != (impl.Map{}) {
			t.Errorf("FirstMap(%v, %v) = %v, %v", one[0], one[1], m, ok)
		}
	}
}

// Hands of MaxAlike cards can be asked for, those of one more can't, even if they are the same.
func TestHandsThatCanNotBeAskedFor(t *testing.T) {
	good := [][][4]int{nil, handOf(0), handOf(0, 1, 2), handOf(0, 1, 2, 3, 4, 5)}
	for _, odd := range append(oddHands(), greaterHands()...) {
		for _, other := range append(good, odd) {
			first, ok := impl.AreAlike(odd, other)
			second, fine := impl.AreAlike(other, odd)
			if first || ok || second || fine {
				t.Errorf("AreAlike of %v and %v: %v, %v, %v, %v", odd, other, first, ok, second, fine)
			}
			to, ok := impl.FirstMap(odd, other)
			back, fine := impl.FirstMap(other, odd)
			if ok || fine || to != (impl.Map{}) || back != (impl.Map{}) {
				t.Errorf("FirstMap of %v and %v: %v, %v, %v, %v", odd, other, to, ok, back, fine)
			}
		}
	}
}
