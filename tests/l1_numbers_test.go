package tests

import (
	"fmt"
	"math"
	"strings"
	"testing"

	"loop.example/g01203/impl"
)

func TestFormatIntWritesNumbersWithinTheBounds(t *testing.T) {
	for n, want := range map[int]string{
		0: "0", 1: "1", -1: "-1", 9: "9", 10: "10", -12: "-12", 100: "100", 65535: "65535",
		999998: "999998", 999999: "999999", -999999: "-999999",
	} {
		if s, ok := impl.FormatInt(n); !ok || s != want {
			t.Errorf("FormatInt(%d) = %q, %v; want %q", n, s, ok, want)
		}
	}
}

func TestFormatIntFailsBeyondTheBounds(t *testing.T) {
	for _, n := range []int{1000000, -1000000, 1 << 32, -1 << 32, math.MaxInt, math.MinInt, math.MinInt + 1} {
		if s, ok := impl.FormatInt(n); ok || s != "" {
			t.Errorf("FormatInt(%d) = %q, %v", n, s, ok)
		}
	}
}

func TestNumbersRoundTrip(t *testing.T) {
	for n := -impl.MaxDecimal; n <= impl.MaxDecimal; n++ {
		s, ok := impl.FormatInt(n)
		if !ok || s != fmt.Sprint(n) {
			t.Fatalf("FormatInt(%d) = %q, %v", n, s, ok)
		}
		if m, ok := impl.ParseInt(s); !ok || m != n {
			t.Fatalf("ParseInt(%q) = %d, %v", s, m, ok)
		}
	}
}

func TestParseIntFailsForOtherTexts(t *testing.T) {
	for _, s := range []string{
		"", "-", "+", "--", "+0", "+1", "+12", "-0", "-00", "00", "01", "007", "-01", "--1", "-+1", "+-1",
		"1000000", "-1000000", "0999999", "-0999999", "9999999",
		" 1", "1 ", "1\n", "\n1", "1\x00", "\x001", "1-", "1x", "x1", "x", "1_0", "1_000", "0x1", "0b1", "0o7",
		"1.0", "1e3", "1,0", ".", "inf", "NaN", "\u0661", "\uff11", "\u22121", "\xff",
		"9223372036854775807", "9223372036854775808", "-9223372036854775808", "18446744073709551617",
		strings.Repeat("0", 5000), strings.Repeat("0", 5000) + "1", strings.Repeat("9", 5000),
	} {
		if n, ok := impl.ParseInt(s); ok || n != 0 {
			t.Errorf("ParseInt(%.40q) = %d, %v", s, n, ok)
		}
	}
}

// Of all short texts of these bytes, just those that FormatInt writes are numbers.
func TestParseIntAcceptsJustWhatFormatIntWrites(t *testing.T) {
	written := map[string]int{}
	for n := -9999; n <= 9999; n++ {
		written[fmt.Sprint(n)] = n
	}
	for _, s := range textsOver("+-019 _", 4) {
		n, ok := impl.ParseInt(s)
		want, fine := written[s]
		if ok != fine || n != want {
			t.Errorf("ParseInt(%q) = %d, %v; want %d, %v", s, n, ok, want, fine)
		}
	}
}
