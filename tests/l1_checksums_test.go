package tests

import (
	"fmt"
	"math/big"
	"strings"
	"testing"

	"loop.example/g01203/impl"
)

// sumByPowers is the checksum written out as a sum of powers, so that it does not repeat the
// program's loop.
func sumByPowers(s string) int {
	modulus := big.NewInt(999979)
	power := big.NewInt(1)
	sum := big.NewInt(0)
	for i := len(s) - 1; i >= 0; i-- {
		sum.Add(sum, new(big.Int).Mul(power, big.NewInt(int64(s[i])+1)))
		power.Mod(power.Mul(power, big.NewInt(41)), modulus)
	}
	sum.Add(sum, power.Mul(power, big.NewInt(7)))
	return int(sum.Mod(sum, modulus).Int64())
}

func sealedByPowers(s string) string { return s + "#" + fmt.Sprint(sumByPowers(s)) }

func TestChecksumOfKnownTexts(t *testing.T) {
	for s, want := range map[string]int{
		"": 7, "a": 385, "\x00": 288, "\xff": 543, "#": 323, "aa": 15883, "ab": 15884, "ba": 15924,
	} {
		if h, ok := impl.Checksum(s); !ok || h != want {
			t.Errorf("Checksum(%q) = %d, %v; want %d", s, h, ok, want)
		}
	}
}

func TestChecksumOfAllLengths(t *testing.T) {
	text := strings.Repeat(everyByte(), 16)
	for size := 0; size <= 300; size++ {
		if h, ok := impl.Checksum(text[:size]); !ok || h != sumByPowers(text[:size]) {
			t.Errorf("size %d: %d, %v", size, h, ok)
		}
	}
	full := text[:impl.MaxString]
	if h, ok := impl.Checksum(full); !ok || h != sumByPowers(full) {
		t.Error("just as long", h, ok)
	}
	for _, s := range []string{text[:impl.MaxString+1], strings.Repeat(text, 300)} {
		if h, ok := impl.Checksum(s); ok || h != 0 {
			t.Error("too long", len(s), h, ok)
		}
	}
}

func TestAppendChecksumSealsTexts(t *testing.T) {
	for s, want := range map[string]string{"": "#7", "a": "a#385", "ab": "ab#15884", "\x00": "\x00#288"} {
		if sealed, ok := impl.AppendChecksum(s); !ok || sealed != want {
			t.Errorf("AppendChecksum(%q) = %q, %v; want %q", s, sealed, ok, want)
		}
	}
}

func TestAppendChecksumFailsForTextsWithTheMark(t *testing.T) {
	for _, s := range []string{"#", "##", "#a", "a#", "a#b", "a#385", "#7", strings.Repeat("a", 2000) + "#"} {
		if sealed, ok := impl.AppendChecksum(s); ok || sealed != "" {
			t.Errorf("AppendChecksum(%.20q) = %.20q, %v", s, sealed, ok)
		}
	}
}

// Whether a long text can be sealed depends on how many digits its checksum has.
func TestAppendChecksumOfLongTexts(t *testing.T) {
	just, over := 0, 0
	for size := impl.MaxString - 8; size <= impl.MaxString+1; size++ {
		for b := range 200 {
			s := strings.Repeat("x", size-1) + string([]byte{byte(b + 40)})
			want, fine := sealedByPowers(s), true
			switch len(want) {
			case impl.MaxString:
				just++
			case impl.MaxString + 1:
				over++
			}
			if len(want) > impl.MaxString {
				want, fine = "", false
			}
			if sealed, ok := impl.AppendChecksum(s); ok != fine || sealed != want {
				t.Fatalf("size %d, byte %d: %d bytes, %v", size, b+40, len(sealed), ok)
			}
			checkOpened(t, sealedByPowers(s), s, fine)
		}
	}
	if just == 0 || over == 0 {
		t.Error("the bound itself is not tried", just, over)
	}
}

// checkOpened checks that VerifyChecksum returns the text if it is fine, and fails otherwise.
func checkOpened(t *testing.T, sealed, text string, fine bool) {
	t.Helper()
	if !fine {
		text = ""
	}
	if s, ok := impl.VerifyChecksum(sealed); ok != fine || s != text {
		t.Errorf("VerifyChecksum(%.40q) = %.40q, %v", sealed, s, ok)
	}
}

func TestVerifyChecksumOpensWhatIsSealed(t *testing.T) {
	texts := append(textsOver("a0-\x00\xff", 4), "hand of cards", strings.ReplaceAll(everyByte(), "#", ""))
	for _, s := range texts {
		sealed, ok := impl.AppendChecksum(s)
		if !ok || sealed != sealedByPowers(s) {
			t.Errorf("AppendChecksum(%q) = %q, %v", s, sealed, ok)
		}
		checkOpened(t, sealed, s, true)
	}
}

func TestVerifyChecksumFailsForOtherTexts(t *testing.T) {
	for _, s := range []string{
		"", "a", "#", "##", "7", "#07", "#+7", "#-7", "# 7", "#7 ", "#8", "##7", "#7#", "#7#7", "#999986",
		"a#", "a#384", "a#386", "a#0385", "a#00385", "a#+385", "a# 385", "a#385 ", "a#385\n", "a#38", "a#3855",
		"a#1000364", "a385", "b#385", "aa#385", " a#385", "A#385", "a#385#1", "a#385#", "a##385", "#a#385",
		"a#385#385", "a#-384", "a#3\xff5", "385#a", "a#b",
		"a#" + strings.Repeat("0", 5000) + "385", strings.Repeat("a", 1<<20) + "#1", strings.Repeat("#", 1<<20),
	} {
		checkOpened(t, s, "", false)
	}
}

// A text with a mark has no sealed form, even if its checksum is right.
func TestVerifyChecksumFailsForMarksWithinTheText(t *testing.T) {
	for _, s := range []string{"#", "a#b", "a#385", "#7"} {
		checkOpened(t, sealedByPowers(s), "", false)
	}
}

// checkChanged checks that a sealed text with another byte at the place i cannot be opened.
func checkChanged(t *testing.T, sealed string, i int, b byte) {
	t.Helper()
	if sealed[i] == b {
		return
	}
	changed := sealed[:i] + string([]byte{b}) + sealed[i+1:]
	if s, ok := impl.VerifyChecksum(changed); ok || s != "" {
		t.Fatalf("byte %d of %d changed to %d is not detected", i, len(sealed), b)
	}
}

func TestEachChangedByteIsDetected(t *testing.T) {
	texts := append(textsOver("a9\xff", 3),
		"put 40", "0 hand@0000 0112", "the quick brown fox", strings.Repeat("0", 150), strings.Repeat("\xff", 150),
		strings.ReplaceAll(everyByte(), "#", ""))
	for _, text := range texts {
		sealed, ok := impl.AppendChecksum(text)
		if !ok {
			t.Fatalf("%q is not sealed", text)
		}
		for i := range len(sealed) {
			for b := range 256 {
				checkChanged(t, sealed, i, byte(b))
			}
		}
	}
}

func TestEachChangedByteOfALongTextIsDetected(t *testing.T) {
	sealed, ok := impl.AppendChecksum(strings.Repeat("abcdefg", 570))
	if !ok {
		t.Fatal("a text of 3990 bytes is not sealed")
	}
	for i := range len(sealed) {
		for _, b := range []byte{'#', '0', '9', sealed[i] + 1, sealed[i] - 1, sealed[i] ^ 0x80} {
			checkChanged(t, sealed, i, b)
		}
	}
}
