package tests

import (
	"math"
	"slices"
	"strings"
	"testing"

	"loop.example/g01203/impl"
)

// oddTexts are texts of any kind, most of which are not valid for most functions.
func oddTexts() []string {
	return []string{
		"", "a", "0", "-0", "+1", "-7", "999999", "1000000", ",", ",,", "#", "#7", "a#385", "a,b#1", "\x00", "\xff\xfe",
		"\u00e9", everyByte(), strings.Repeat("9", 30), strings.Repeat(",", impl.MaxString),
		strings.Repeat("a", impl.MaxString+1), strings.Repeat("#", 1<<16), strings.Repeat("-1,", 1<<16),
	}
}

func TestNumberFunctionsReturnForAllArguments(t *testing.T) {
	for _, n := range []int{0, 1, -1, impl.MaxDecimal, -impl.MaxDecimal, math.MaxInt, math.MinInt} {
		s, ok := impl.FormatInt(n)
		again, fine := impl.FormatInt(n)
		if s != again || ok != fine || !ok && s != "" {
			t.Errorf("FormatInt(%d) = %q, %v and %q, %v", n, s, ok, again, fine)
		}
	}
	for _, s := range oddTexts() {
		n, ok := impl.ParseInt(s)
		again, fine := impl.ParseInt(s)
		if n != again || ok != fine || !ok && n != 0 {
			t.Errorf("ParseInt(%.20q) = %d, %v and %d, %v", s, n, ok, again, fine)
		}
	}
}

func TestChecksumFunctionsReturnForAllArguments(t *testing.T) {
	for _, s := range oddTexts() {
		h, ok := impl.Checksum(s)
		if again, fine := impl.Checksum(s); h != again || ok != fine || !ok && h != 0 {
			t.Errorf("Checksum(%.20q) = %d, %v and %d, %v", s, h, ok, again, fine)
		}
		for name, f := range map[string]func(string) (string, bool){
			"AppendChecksum": impl.AppendChecksum, "VerifyChecksum": impl.VerifyChecksum,
		} {
			text, ok := f(s)
			if again, fine := f(s); text != again || ok != fine || !ok && text != "" {
				t.Errorf("%s(%.20q) = %.20q, %v and %.20q, %v", name, s, text, ok, again, fine)
			}
		}
	}
}

func TestPairFunctionsReturnForAllArguments(t *testing.T) {
	for _, a := range oddTexts() {
		for _, b := range oddTexts() {
			if impl.LessString(a, b) && impl.LessString(b, a) {
				t.Errorf("%.20q and %.20q are less than each other", a, b)
			}
			l, ok := impl.SplitString(a, b)
			if again, fine := impl.SplitString(a, b); !slices.Equal(l, again) || ok != fine || !ok && len(l) != 0 {
				t.Errorf("SplitString(%.20q, %.20q)", a, b)
			}
			s, ok := impl.JoinStrings([]string{a, b, a}, b)
			if again, fine := impl.JoinStrings([]string{a, b, a}, b); s != again || ok != fine || !ok && s != "" {
				t.Errorf("JoinStrings of %.20q and %.20q", a, b)
			}
		}
	}
}

func TestJoinStringsLeavesItsArgument(t *testing.T) {
	for _, sep := range []string{",", "b", "", ",,"} {
		backing := []string{"a", "", "b", "behind", "further"}
		impl.JoinStrings(backing[:3], sep)
		if !slices.Equal(backing, []string{"a", "", "b", "behind", "further"}) {
			t.Errorf("separator %q: %q", sep, backing)
		}
	}
}

func TestResultsShareNoMemory(t *testing.T) {
	first, _ := impl.SplitString("a,b,c", ",")
	second, _ := impl.SplitString("a,b,c", ",")
	for i := range first {
		first[i] = "x"
	}
	third, _ := impl.SplitString("a,b,c", ",")
	want := []string{"a", "b", "c"}
	if !slices.Equal(second, want) || !slices.Equal(third, want) {
		t.Error("split again", second, third)
	}
}
