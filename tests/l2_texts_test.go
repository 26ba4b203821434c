package tests

import (
	"fmt"
	"slices"
	"strings"
	"testing"

	"loop.example/g01203/impl"
)

func TestTextsOfCards(t *testing.T) {
	for _, c := range allCards() {
		want := fmt.Sprintf("%d%d%d%d", c[0], c[1], c[2], c[3])
		if s, ok := impl.CardText(c); !ok || s != want {
			t.Errorf("CardText(%v) = %q, %v; want %q", c, s, ok, want)
		}
	}
	for _, c := range oddCards() {
		if s, ok := impl.CardText(c); ok || s != "" {
			t.Errorf("CardText(%v) = %q, %v", c, s, ok)
		}
	}
}

func TestTextsOfHandsRoundTrip(t *testing.T) {
	for _, h := range someHands() {
		texts := []string{}
		for _, c := range h {
			texts = append(texts, fmt.Sprintf("%d%d%d%d", c[0], c[1], c[2], c[3]))
		}
		want := strings.Join(texts, " ")
		s, ok := impl.HandText(h)
		if !ok || s != want {
			t.Fatalf("HandText(%v) = %q, %v; want %q", h, s, ok, want)
		}
		if back, ok := impl.ParseHand(s); !ok || !slices.Equal(back, h) {
			t.Fatalf("ParseHand(%q) = %v, %v; want %v", s, back, ok, h)
		}
	}
	if s, ok := impl.HandText(nil); !ok || s != "" {
		t.Errorf("HandText(nil) = %q, %v", s, ok)
	}
	if h, ok := impl.ParseHand(""); !ok || len(h) != 0 {
		t.Errorf("ParseHand of the empty text = %v, %v", h, ok)
	}
	for _, h := range oddHands() {
		if s, ok := impl.HandText(h); ok || s != "" {
			t.Errorf("HandText(%v) = %q, %v", h, s, ok)
		}
	}
}

func TestParseHandFailsForOtherTexts(t *testing.T) {
	most, _ := impl.HandText(allCards()[:27])
	for _, s := range []string{
		" ", "  ", "0", "000", "00000", "0000 ", " 0000", "0000  0001", "0000 0001 ", "0000,0001", "0000\t0001",
		"0000\n0001", "0000 001", "0000 00010", "00000001", "0001 0000", "0000 0000", "0000 0002 0001", "0000 0001 0001",
		"0003", "3000", "000/", "000:", "00-1", "000a", "-000", "+000", "000\x00", "000\xff", "000\u0661", "0000 2223",
		"0000\x000001", "\uff10\uff10\uff10\uff10", most + " ", " " + most, most + " 1000", most + " 0222", most[1:],
		strings.Repeat("0000 ", 5000) + "0000", strings.Repeat(" ", 1<<16), strings.Repeat("0", 1<<16), everyByte(),
	} {
		if h, ok := impl.ParseHand(s); ok || len(h) != 0 {
			t.Errorf("ParseHand(%.60q) = %v, %v", s, h, ok)
		}
	}
	texts := []string{}
	for _, c := range allCards()[:28] {
		texts = append(texts, fmt.Sprintf("%d%d%d%d", c[0], c[1], c[2], c[3]))
	}
	if h, ok := impl.ParseHand(strings.Join(texts, " ")); ok || len(h) != 0 {
		t.Error("28 cards", h, ok)
	}
}

// Of all short texts of these bytes, and of all that one changed byte makes of the text of a
// hand, just those that HandText writes are texts of hands.
func TestParseHandAcceptsJustWhatHandTextWrites(t *testing.T) {
	texts := textsOver("0123 ", 5)
	for _, seed := range []string{"0000 0121 1202 2222", "1111 1112"} {
		for i := range len(seed) {
			for b := range 256 {
				texts = append(texts, seed[:i]+string([]byte{byte(b)})+seed[i+1:])
			}
			texts = append(texts, seed[:i], seed[:i]+seed[i+1:])
		}
	}
	for _, s := range texts {
		h, ok := impl.ParseHand(s)
		if ok != isHandText(s) || !ok && len(h) != 0 {
			t.Errorf("ParseHand(%q) = %v, %v", s, h, ok)
		}
		if back, fine := impl.HandText(h); ok && (!fine || back != s) {
			t.Errorf("HandText(%v) = %q, %v; want %q", h, back, fine, s)
		}
	}
}

// isHandText reports whether a text is that of a hand: of cards in ascending order, which is
// that of their texts too.
func isHandText(s string) bool {
	if s == "" {
		return true
	}
	parts := strings.Split(s, " ")
	for i, part := range parts {
		if len(part) != 4 || strings.Trim(part, "012") != "" || i > 0 && parts[i-1] >= part {
			return false
		}
	}
	return len(parts) <= impl.MaxHand
}
