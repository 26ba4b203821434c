package tests

import (
	"slices"
	"testing"

	"loop.example/g01203/impl"
)

func TestAllMapsAreValid(t *testing.T) {
	maps := everyMap()
	if len(maps) != 24*6*6*6*6 {
		t.Fatalf("there are %d Maps", len(maps))
	}
	for _, m := range maps {
		if !impl.IsMap(m) {
			t.Fatalf("%v is not valid", m)
		}
	}
	for _, m := range oddMaps() {
		if impl.IsMap(m) {
			t.Errorf("%v is valid", m)
		}
	}
}

// All Traits of numbers in -1..4, and all Values of numbers in -1..3.
func TestMapsOfNumbersNearTheLimits(t *testing.T) {
	for number := range 6 * 6 * 6 * 6 {
		m := stay()
		m.Traits = [4]int{number/216 - 1, number/36%6 - 1, number/6%6 - 1, number%6 - 1}
		if want := slices.Contains(everyTraits(), m.Traits); impl.IsMap(m) != want {
			t.Errorf("IsMap(%v) = %v", m, !want)
		}
	}
	for i := range 4 {
		for number := range 5 * 5 * 5 {
			m := slowMap()
			m.Values[i] = [3]int{number/25 - 1, number/5%5 - 1, number%5 - 1}
			sorted := m.Values[i]
			slices.Sort(sorted[:])
			if want := sorted == sameValues; impl.IsMap(m) != want {
				t.Errorf("IsMap(%v) = %v", m, !want)
			}
		}
	}
}

func TestImagesOfCards(t *testing.T) {
	for _, m := range someMaps() {
		for _, c := range allCards() {
			if image, ok := impl.MapCard(m, c); !ok || image != imageByTraits(m, c) {
				t.Errorf("MapCard(%v, %v) = %v, %v", m, c, image, ok)
			}
		}
		for _, c := range oddCards() {
			if image, ok := impl.MapCard(m, c); ok || image != [4]int{} {
				t.Errorf("MapCard(%v, %v) = %v, %v", m, c, image, ok)
			}
		}
	}
	for _, m := range oddMaps() {
		for _, c := range append(oddCards(), allCards()...) {
			if image, ok := impl.MapCard(m, c); ok || image != [4]int{} {
				t.Errorf("MapCard(%v, %v) = %v, %v", m, c, image, ok)
			}
		}
	}
}

// An image that was worked out beside the program: each trait comes from another one.
func TestKnownImage(t *testing.T) {
	m := impl.Map{Traits: [4]int{3, 0, 1, 2}, Values: [4][3]int{{0, 2, 1}, {1, 2, 0}, {2, 0, 1}, {1, 0, 2}}}
	if image, ok := impl.MapCard(m, [4]int{1, 2, 0, 1}); !ok || image != [4]int{2, 2, 1, 1} {
		t.Errorf("MapCard(%v) = %v, %v", m, image, ok)
	}
	want := [][4]int{{0, 1, 2, 1}, {1, 0, 2, 1}, {2, 1, 0, 2}}
	if images, ok := impl.MapHand(m, [][4]int{{0, 0, 0, 0}, {0, 1, 2, 1}, {2, 0, 0, 2}}); !ok || !slices.Equal(images, want) {
		t.Errorf("MapHand(%v) = %v, %v; want %v", m, images, ok, want)
	}
}

func TestImagesOfHands(t *testing.T) {
	hands := someHands()
	for i, m := range someMaps() {
		for j := i % 3; j < len(hands); j += 3 {
			h := hands[j]
			images, ok := impl.MapHand(m, h)
			if !ok || !slices.Equal(images, imagesByTraits(m, h)) || !impl.IsHand(images) {
				t.Errorf("MapHand(%v, %v) = %v, %v", m, h, images, ok)
			}
		}
	}
	for _, h := range oddHands() {
		if images, ok := impl.MapHand(slowMap(), h); ok || len(images) != 0 {
			t.Errorf("MapHand of %v = %v, %v", h, images, ok)
		}
	}
	for _, m := range oddMaps() {
		for _, h := range [][][4]int{nil, handOf(0), handOf(0, 1, 2, 40), handOf(1, 0), allCards()} {
			if images, ok := impl.MapHand(m, h); ok || len(images) != 0 {
				t.Errorf("MapHand(%v, %v) = %v, %v", m, h, images, ok)
			}
		}
	}
}

func TestMapsBehindEachOther(t *testing.T) {
	maps := someMaps()
	for i := 0; i < len(maps); i += 3 {
		for j := 0; j < len(maps); j += 2 {
			a, b := maps[i], maps[j]
			both, ok := impl.MapBehind(a, b)
			if !ok || !impl.IsMap(both) {
				t.Fatalf("MapBehind(%v, %v) = %v, %v", a, b, both, ok)
			}
			for _, c := range allCards() {
				if want := imageByTraits(b, imageByTraits(a, c)); imageByTraits(both, c) != want {
					t.Fatalf("MapBehind(%v, %v) = %v: %v becomes %v", a, b, both, c, want)
				}
			}
		}
	}
	for _, odd := range oddMaps() {
		for _, other := range append(oddMaps(), stay(), slowMap()) {
			first, ok := impl.MapBehind(odd, other)
			second, fine := impl.MapBehind(other, odd)
			if ok || fine || first != (impl.Map{}) || second != (impl.Map{}) {
				t.Fatalf("MapBehind of %v and %v: %v, %v, %v, %v", odd, other, first, ok, second, fine)
			}
		}
	}
}

func TestMapsThatLeadBack(t *testing.T) {
	for _, m := range everyMap() {
		back, ok := impl.MapBack(m)
		if !ok || !impl.IsMap(back) {
			t.Fatalf("MapBack(%v) = %v, %v", m, back, ok)
		}
		for _, c := range allCards() {
			if imageByTraits(back, imageByTraits(m, c)) != c {
				t.Fatalf("MapBack(%v) = %v does not lead back to %v", m, back, c)
			}
		}
		behind, ok := impl.MapBehind(m, back)
		before, fine := impl.MapBehind(back, m)
		if !ok || !fine || behind != stay() || before != stay() {
			t.Fatalf("%v and %v: %v, %v and %v, %v", m, back, behind, ok, before, fine)
		}
	}
	for _, m := range oddMaps() {
		if back, ok := impl.MapBack(m); ok || back != (impl.Map{}) {
			t.Errorf("MapBack(%v) = %v, %v", m, back, ok)
		}
	}
}

// Maps are a group: the same ones behind each other in either grouping, and stay changes none.
func TestMapsAreAGroup(t *testing.T) {
	maps := someMaps()
	for i, a := range maps {
		b, c := maps[(7*i+3)%len(maps)], maps[(11*i+5)%len(maps)]
		ab, _ := impl.MapBehind(a, b)
		bc, _ := impl.MapBehind(b, c)
		first, ok := impl.MapBehind(ab, c)
		second, fine := impl.MapBehind(a, bc)
		if !ok || !fine || first != second {
			t.Errorf("%v, %v and %v: %v and %v", a, b, c, first, second)
		}
		before, ok := impl.MapBehind(stay(), a)
		behind, fine := impl.MapBehind(a, stay())
		if !ok || !fine || before != a || behind != a {
			t.Errorf("%v: %v and %v", a, before, behind)
		}
	}
}

func TestShifts(t *testing.T) {
	for _, a := range allCards() {
		for _, b := range allCards() {
			shift, ok := impl.ShiftTo(a, b)
			if !ok || !impl.IsMap(shift) || shift.Traits != stay().Traits || imageByTraits(shift, a) != b {
				t.Fatalf("ShiftTo(%v, %v) = %v, %v", a, b, shift, ok)
			}
			for trait, values := range shift.Values {
				// Each value goes on by as many as the first one.
				if values != [3]int{values[0], (values[0] + 1) % 3, (values[0] + 2) % 3} {
					t.Fatalf("ShiftTo(%v, %v) = %v changes trait %d otherwise", a, b, shift, trait)
				}
			}
		}
		if shift, ok := impl.ShiftTo(a, a); !ok || shift != stay() {
			t.Errorf("ShiftTo(%v, %v) = %v, %v", a, a, shift, ok)
		}
	}
	want := impl.Map{Traits: [4]int{0, 1, 2, 3}, Values: [4][3]int{{2, 0, 1}, {1, 2, 0}, {0, 1, 2}, {1, 2, 0}}}
	if shift, ok := impl.ShiftTo([4]int{2, 0, 1, 2}, [4]int{1, 1, 1, 0}); !ok || shift != want {
		t.Errorf("ShiftTo = %v, %v; want %v", shift, ok, want)
	}
}

func TestShiftsOfOddCards(t *testing.T) {
	for _, odd := range oddCards() {
		for _, c := range append(oddCards(), allCards()...) {
			from, ok := impl.ShiftTo(odd, c)
			to, fine := impl.ShiftTo(c, odd)
			if ok || fine || from != (impl.Map{}) || to != (impl.Map{}) {
				t.Fatalf("ShiftTo of %v and %v: %v, %v, %v, %v", odd, c, from, ok, to, fine)
			}
		}
	}
}

func TestImagesOfLinesAreLinesOfTheSameKind(t *testing.T) {
	lines := linesByTraits(allCards())
	if len(lines) != 1080 {
		t.Fatalf("there are %d lines", len(lines))
	}
	for i, m := range someMaps() {
		for j, line := range lines {
			if i < 2 || (i+j)%5 == 0 {
				checkLineImage(t, m, handOf(line[:]...))
			}
		}
	}
	kinds := [][][4]int{handOf(0, 1, 2), handOf(9, 13, 17), handOf(3, 40, 77), handOf(5, 42, 73)}
	for _, m := range everyMap() {
		for _, line := range kinds {
			checkLineImage(t, m, line)
		}
	}
}

// checkLineImage checks that the image of a line is a line of the same kind.
func checkLineImage(t *testing.T, m impl.Map, line [][4]int) {
	t.Helper()
	want, ok := impl.LineKind(line[0], line[1], line[2])
	images, fine := impl.MapHand(m, line)
	if !ok || !fine || len(images) != 3 {
		t.Fatalf("the image of %v by %v is %v", line, m, images)
	}
	if kind, ok := impl.LineKind(images[0], images[1], images[2]); !ok || kind != want {
		t.Fatalf("the image of %v by %v is %v, of kind %d, %v; want %d", line, m, images, kind, ok, want)
	}
}

func TestImagesOfCapsAreCaps(t *testing.T) {
	caps, hands := someCaps(), someHands()
	for i, m := range someMaps() {
		for j := i % 5; j < len(caps); j += 5 {
			h := caps[j]
			images, _ := impl.MapHand(m, h)
			if is, ok := impl.IsCap(images); !ok || !is || len(images) != len(h) {
				t.Fatalf("the image of %v by %v is %v: %v, %v", h, m, images, is, ok)
			}
		}
		// All hands have as many lines as their images.
		h := hands[i%len(hands)]
		images, _ := impl.MapHand(m, h)
		if lines, ok := impl.LinesIn(images); !ok || len(lines) != len(linesByTraits(h)) {
			t.Errorf("the image of %v by %v is %v, with %d lines", h, m, images, len(lines))
		}
	}
}
