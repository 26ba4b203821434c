package tests

import (
	"slices"
	"testing"

	"loop.example/g01203/impl"
)

func TestCodewords(t *testing.T) {
	words := impl.Codewords()
	if !slices.Equal(words, sortedWords()) || !slices.IsSortedFunc(words, byTraits) {
		t.Errorf("Codewords() = %v; want %v", words, sortedWords())
	}
	for i, a := range words {
		for _, b := range words[:i] {
			if differByTraits(a, b) < 3 {
				t.Error("the codewords", a, b, "differ in fewer than three traits")
			}
		}
	}
}

func TestWhichCardsAreCodewords(t *testing.T) {
	count := 0
	for _, c := range allCards() {
		want := c[1] == (c[0]+c[3])%3 && c[2] == (c[0]+2*c[3])%3
		if is, ok := impl.IsCodeword(c); !ok || is != want || is != slices.Contains(sortedWords(), c) {
			t.Errorf("IsCodeword(%v) = %v, %v; want %v", c, is, ok, want)
		}
		if want {
			count++
		}
	}
	if count != 9 {
		t.Error("there are", count, "codewords")
	}
}

// The promise: each card has just one nearest codeword.
func TestNearestCodewords(t *testing.T) {
	for _, c := range allCards() {
		number, differs := nearestByTraits(c)
		want := wordsByNumber()[number]
		if word, trait, ok := impl.NearestCodeword(c); !ok || word != want || trait != differs {
			t.Errorf("NearestCodeword(%v) = %v, %d, %v; want %v, %d", c, word, trait, ok, want, differs)
		}
	}
}

func TestCodewordsAndTheirChanges(t *testing.T) {
	near := map[[4]int]bool{}
	for _, want := range sortedWords() {
		if word, trait, ok := impl.NearestCodeword(want); !ok || word != want || trait != -1 {
			t.Errorf("NearestCodeword(%v) = %v, %d, %v; it is a codeword", want, word, trait, ok)
		}
		near[want] = true
		for i, c := range changesOf(want) {
			if word, trait, ok := impl.NearestCodeword(c); !ok || word != want || trait != i/2 {
				t.Errorf("NearestCodeword(%v) = %v, %d, %v; want %v, %d", c, word, trait, ok, want, i/2)
			}
			if is, ok := impl.IsCodeword(c); !ok || is {
				t.Errorf("IsCodeword(%v) = %v, %v", c, is, ok)
			}
			near[c] = true
		}
	}
	if len(near) != 81 {
		t.Error("the codewords and their changes are", len(near), "cards")
	}
}

func TestNearestCodewordsOfSomeCards(t *testing.T) {
	for _, one := range []struct {
		c, word [4]int
		trait   int
	}{
		{[4]int{0, 0, 0, 0}, [4]int{0, 0, 0, 0}, -1},
		{[4]int{2, 0, 0, 0}, [4]int{0, 0, 0, 0}, 0},
		{[4]int{0, 1, 0, 0}, [4]int{0, 0, 0, 0}, 1},
		{[4]int{0, 0, 2, 0}, [4]int{0, 0, 0, 0}, 2},
		{[4]int{0, 0, 0, 1}, [4]int{0, 0, 0, 0}, 3},
		{[4]int{2, 2, 2, 2}, [4]int{2, 2, 2, 0}, 3},
		{[4]int{1, 1, 1, 1}, [4]int{1, 1, 1, 0}, 3},
		{[4]int{0, 1, 2, 2}, [4]int{0, 1, 2, 1}, 3},
		{[4]int{1, 0, 1, 1}, [4]int{2, 0, 1, 1}, 0},
	} {
		if word, trait, ok := impl.NearestCodeword(one.c); !ok || word != one.word || trait != one.trait {
			t.Errorf("NearestCodeword(%v) = %v, %d, %v; want %v, %d", one.c, word, trait, ok, one.word, one.trait)
		}
	}
}

func TestOddCardsAreNoCodewords(t *testing.T) {
	// These would be codewords if the remainders by 3 were all that counts.
	odd := append(oddCards(), [4]int{3, 0, 0, 0}, [4]int{0, 0, 0, 3}, [4]int{0, 3, 0, 0}, [4]int{0, 0, -3, 0}, [4]int{3, 1, 2, 1}, [4]int{-3, 0, 0, 0}, [4]int{0, 0, 0, -3}, [4]int{3, 3, 3, 0}, [4]int{0, 4, 8, 4})
	for _, c := range odd {
		if is, ok := impl.IsCodeword(c); ok || is {
			t.Errorf("IsCodeword(%v) = %v, %v", c, is, ok)
		}
		if word, trait, ok := impl.NearestCodeword(c); ok || word != [4]int{} || trait != 0 {
			t.Errorf("NearestCodeword(%v) = %v, %d, %v; want zeros", c, word, trait, ok)
		}
	}
}
