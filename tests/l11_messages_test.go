package tests

import (
	"slices"
	"testing"

	"loop.example/g01203/impl"
)

// checkRead checks what ReadMessage tells of a list of cards.
func checkRead(t *testing.T, cards [][4]int, want []int, wrong int) {
	t.Helper()
	if list, count, ok := impl.ReadMessage(cards); !ok || !slices.Equal(list, want) || count != wrong {
		t.Fatalf("ReadMessage(%v) = %v, %d, %v; want %v, %d", cards, list, count, ok, want, wrong)
	}
}

// checkDistance checks what CodeDistance tells of two lists, in both orders.
func checkDistance(t *testing.T, a, b [][4]int, want int) {
	t.Helper()
	if distance, ok := impl.CodeDistance(a, b); !ok || distance != want {
		t.Fatalf("CodeDistance(%v, %v) = %d, %v; want %d", a, b, distance, ok, want)
	}
	if distance, ok := impl.CodeDistance(b, a); !ok || distance != want {
		t.Fatalf("CodeDistance(%v, %v) = %d, %v; want %d", b, a, distance, ok, want)
	}
}

func TestMessagesAreSent(t *testing.T) {
	for number, word := range wordsByNumber() {
		if cards, ok := impl.SendMessage([]int{number}); !ok || len(cards) != 1 || cards[0] != word {
			t.Errorf("SendMessage([%d]) = %v, %v; want %v", number, cards, ok, word)
		}
	}
	for _, list := range someMessages() {
		want := [][4]int{}
		for _, number := range list {
			want = append(want, wordsByNumber()[number])
		}
		if cards, ok := impl.SendMessage(list); !ok || !slices.Equal(cards, want) {
			t.Fatalf("SendMessage(%v) = %v, %v; want %v", list, cards, ok, want)
		}
	}
	if cards, ok := impl.SendMessage(nil); !ok || len(cards) != 0 {
		t.Errorf("SendMessage() = %v, %v", cards, ok)
	}
}

func TestWhatIsNoMessageIsNotSent(t *testing.T) {
	lists := [][]int{make([]int, 28), make([]int, 81), make([]int, 5000), slices.Repeat([]int{8}, 28)}
	for _, number := range append(greatNumbers(), -9, -2, -1, 9, 10, 27) {
		for _, size := range []int{1, 2, 3, impl.MaxMessage} {
			for _, place := range []int{0, size / 2, size - 1} {
				list := slices.Repeat([]int{4}, size)
				list[place] = number
				lists = append(lists, list)
			}
		}
	}
	for _, list := range lists {
		if cards, ok := impl.SendMessage(list); ok || len(cards) != 0 {
			t.Errorf("SendMessage(%v) = %v, %v", list, cards, ok)
		}
	}
}

func TestListsOfCardsAreRead(t *testing.T) {
	checkRead(t, nil, nil, 0)
	checkRead(t, [][4]int{}, nil, 0)
	for _, cards := range append(someLists(), allCards()[:27], allCards()[27:54], allCards()[54:]) {
		want, wrong := []int{}, 0
		for _, c := range cards {
			number, differs := nearestByTraits(c)
			want = append(want, number)
			if differs >= 0 {
				wrong++
			}
		}
		checkRead(t, cards, want, wrong)
	}
}

func TestSomeListsOfCardsAreRead(t *testing.T) {
	checkRead(t, sortedWords(), []int{0, 1, 2, 5, 3, 4, 7, 8, 6}, 0)
	checkRead(t, wordsByNumber(), []int{0, 1, 2, 3, 4, 5, 6, 7, 8}, 0)
	checkRead(t, [][4]int{{0, 1, 2, 2}, {1, 1, 1, 0}}, []int{1, 3}, 1)
	// The same card twice, in descending order, and all of them wrong.
	checkRead(t, [][4]int{{2, 1, 0, 2}, {2, 1, 0, 2}, {0, 0, 0, 0}}, []int{8, 8, 0}, 0)
	checkRead(t, [][4]int{{2, 1, 0, 1}, {2, 1, 0, 1}, {0, 1, 0, 0}}, []int{8, 8, 0}, 3)
	checkRead(t, slices.Repeat(handOf(80), 27), slices.Repeat([]int{6}, 27), 27)
}

// The promise: messages are read as they were sent.
func TestMessagesAreReadAsTheyWereSent(t *testing.T) {
	for _, list := range someMessages() {
		cards, ok := impl.SendMessage(list)
		if !ok {
			t.Fatalf("SendMessage(%v) fails", list)
		}
		checkRead(t, cards, list, 0)
	}
}

// The Guarantee: a message is read as it was sent if at most one trait of each card has changed.
func TestChangedMessagesAreReadAsTheyWereSent(t *testing.T) {
	for number, word := range wordsByNumber() {
		for _, c := range changesOf(word) {
			checkRead(t, [][4]int{c}, []int{number}, 1)
		}
	}
	state := uint32(1)
	for _, list := range someMessages() {
		for _, most := range []int{1, 9, 17} {
			sent, _ := impl.SendMessage(list)
			cards, wrong := slices.Clone(sent), 0
			for place, c := range sent {
				state = state*1664525 + 1013904223
				// Where there are fewer changes than choices, some cards stay.
				if choice := int(state>>16) % most; choice < 8 {
					cards[place] = changesOf(c)[(choice+place)%8]
					wrong++
				}
			}
			checkRead(t, cards, list, wrong)
			checkDistance(t, sent, cards, wrong)
		}
	}
}

func TestDistancesOfLists(t *testing.T) {
	lists := someLists()
	for i, a := range lists {
		checkDistance(t, a, a, 0)
		for _, b := range lists[max(0, i-30):i] {
			if len(a) != len(b) {
				continue
			}
			want := 0
			for place := range a {
				want += differByTraits(a[place], b[place])
			}
			checkDistance(t, a, b, want)
		}
	}
}

func TestDistancesOfSomeLists(t *testing.T) {
	checkDistance(t, nil, nil, 0)
	checkDistance(t, nil, [][4]int{}, 0)
	checkDistance(t, [][4]int{{0, 1, 2, 1}}, [][4]int{{0, 1, 2, 2}}, 1)
	checkDistance(t, [][4]int{{0, 0, 0, 0}}, [][4]int{{2, 1, 2, 1}}, 4)
	// Lists, not hands: what counts is which card is at which place.
	checkDistance(t, handOf(0, 80), handOf(80, 0), 8)
	checkDistance(t, handOf(0, 0, 0), handOf(0, 1, 0), 1)
	checkDistance(t, handOf(0, 1, 1), handOf(1, 1, 4), 2)
	checkDistance(t, slices.Repeat(handOf(0), 27), slices.Repeat(handOf(40), 27), 108)
	checkDistance(t, slices.Repeat(handOf(80), 27), slices.Repeat(handOf(71), 27), 27)
}

// checkNoDistance checks that CodeDistance fails for two lists, in both orders.
func checkNoDistance(t *testing.T, a, b [][4]int) {
	t.Helper()
	if distance, ok := impl.CodeDistance(a, b); ok || distance != 0 {
		t.Errorf("CodeDistance(%v, %v) = %d, %v", a, b, distance, ok)
	}
	if distance, ok := impl.CodeDistance(b, a); ok || distance != 0 {
		t.Errorf("CodeDistance(%v, %v) = %d, %v", b, a, distance, ok)
	}
}

func TestListsOfOtherLengthsHaveNoDistance(t *testing.T) {
	for size := range impl.MaxMessage + 2 {
		for other := range impl.MaxMessage + 2 {
			if size != other || size > impl.MaxMessage {
				checkNoDistance(t, allCards()[:size], slices.Repeat(handOf(3), other))
			}
		}
	}
}

func TestOddListsAreNotRead(t *testing.T) {
	for _, list := range oddLists() {
		if numbers, wrong, ok := impl.ReadMessage(list); ok || len(numbers) != 0 || wrong != 0 {
			t.Errorf("ReadMessage(%v) = %v, %d, %v", list, numbers, wrong, ok)
		}
		checkNoDistance(t, list, list)
		checkNoDistance(t, list, slices.Repeat(handOf(40), len(list)))
		checkNoDistance(t, list, nil)
	}
}
