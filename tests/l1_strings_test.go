package tests

import (
	"bytes"
	"slices"
	"strings"
	"testing"

	"loop.example/g01203/impl"
)

func TestSplitStringCutsAtEachSeparator(t *testing.T) {
	for _, c := range []struct {
		s, sep string
		want   []string
	}{
		{"", ",", []string{""}},
		{",", ",", []string{"", ""}},
		{",,", ",", []string{"", "", ""}},
		{"a", ",", []string{"a"}},
		{"a,,b", ",", []string{"a", "", "b"}},
		{",a,b,", ",", []string{"", "a", "b", ""}},
		{"a,b;c", ";", []string{"a,b", "c"}},
		{"one two", " ", []string{"one", "two"}},
		{"a\nb", "\n", []string{"a", "b"}},
		{"a\x00b", "\x00", []string{"a", "b"}},
		{"a\xffb\xff", "\xff", []string{"a", "b", ""}},
		{"\u00e9", "\xa9", []string{"\xc3", ""}},
	} {
		if l, ok := impl.SplitString(c.s, c.sep); !ok || !slices.Equal(l, c.want) {
			t.Errorf("SplitString(%q, %q) = %q, %v; want %q", c.s, c.sep, l, ok, c.want)
		}
	}
}

func TestSplitStringTakesEachByteAsSeparator(t *testing.T) {
	all := everyByte()
	for i := range len(all) {
		want := []string{all[:i], all[i+1:]}
		if l, ok := impl.SplitString(all, all[i:i+1]); !ok || !slices.Equal(l, want) {
			t.Errorf("byte %d: %q, %v", i, l, ok)
		}
	}
}

func TestSplitStringOfLongTexts(t *testing.T) {
	if l, ok := impl.SplitString(strings.Repeat(",", impl.MaxString), ","); !ok || len(l) != impl.MaxString+1 {
		t.Error("separators only", len(l), ok)
	}
	long := strings.Repeat("a", impl.MaxString)
	if l, ok := impl.SplitString(long, ","); !ok || !slices.Equal(l, []string{long}) {
		t.Error("no separators", len(l), ok)
	}
	for _, s := range []string{long + "a", long + ",", strings.Repeat(",", impl.MaxString+1), strings.Repeat(long, 300)} {
		if l, ok := impl.SplitString(s, ","); ok || len(l) != 0 {
			t.Error("too long", len(s), len(l), ok)
		}
	}
}

func TestSplitStringFailsForOtherSeparators(t *testing.T) {
	for _, sep := range []string{"", ",,", ",;", "a,", "\u00e9", strings.Repeat(",", 5000)} {
		for _, s := range []string{"", "a", "a,b", sep} {
			if l, ok := impl.SplitString(s, sep); ok || len(l) != 0 {
				t.Errorf("SplitString(%.20q, %.20q) = %q, %v", s, sep, l, ok)
			}
		}
	}
}

func TestJoinStringsPutsSeparatorsBetween(t *testing.T) {
	for _, c := range []struct {
		parts     []string
		sep, want string
	}{
		{[]string{""}, ";", ""},
		{[]string{"a"}, ";", "a"},
		{[]string{"", ""}, ";", ";"},
		{[]string{"a", "", "b"}, ";", "a;;b"},
		{[]string{"", "a", ""}, ";", ";a;"},
		{[]string{"a,b", "c"}, ";", "a,b;c"},
		{[]string{"a", "b"}, "\x00", "a\x00b"},
		{[]string{"\xc3", ""}, "\xa9", "\u00e9"},
	} {
		if s, ok := impl.JoinStrings(c.parts, c.sep); !ok || s != c.want {
			t.Errorf("JoinStrings(%q, %q) = %q, %v; want %q", c.parts, c.sep, s, ok, c.want)
		}
	}
}

func TestJoinStringsFails(t *testing.T) {
	for _, c := range []struct {
		parts []string
		sep   string
	}{
		{nil, ";"},
		{[]string{}, ";"},
		{nil, ""},
		{[]string{"a"}, ""},
		{[]string{"a", "b"}, ""},
		{[]string{"a"}, ";;"},
		{[]string{"a", "b"}, ";,"},
		{[]string{"a", "b"}, "\u00e9"},
		{[]string{";"}, ";"},
		{[]string{";a"}, ";"},
		{[]string{"a;"}, ";"},
		{[]string{"a;b"}, ";"},
		{[]string{"a;b", "c"}, ";"},
		{[]string{"a", "b", "c;d"}, ";"},
		{[]string{"a", ";", "b"}, ";"},
		{[]string{"\u00e9"}, "\xa9"},
	} {
		if s, ok := impl.JoinStrings(c.parts, c.sep); ok || s != "" {
			t.Errorf("JoinStrings(%q, %q) = %q, %v", c.parts, c.sep, s, ok)
		}
	}
}

func TestJoinStringsOfLongTexts(t *testing.T) {
	half := strings.Repeat("a", impl.MaxString/2)
	long := half + half
	for _, parts := range [][]string{
		{long},
		{half, half[1:]},
		{long[1:], ""},
		{"", long[1:]},
		make([]string, impl.MaxString+1),
	} {
		if s, ok := impl.JoinStrings(parts, ","); !ok || len(s) != impl.MaxString || s != strings.Join(parts, ",") {
			t.Error("just as long", len(parts), len(s), ok)
		}
	}
	for _, parts := range [][]string{
		{long + "a"},
		{half, half},
		{long, ""},
		{"", long},
		make([]string, impl.MaxString+2),
		{"a", strings.Repeat(long, 300)},
		{long, long, long},
	} {
		if s, ok := impl.JoinStrings(parts, ","); ok || s != "" {
			t.Error("too long", len(parts), len(s), ok)
		}
	}
}

func TestSplittingRoundTrips(t *testing.T) {
	for _, s := range append(textsOver("a,\xff", 6), everyByte()) {
		parts, ok := impl.SplitString(s, ",")
		if !ok || len(parts) != strings.Count(s, ",")+1 {
			t.Errorf("SplitString(%q) = %q, %v", s, parts, ok)
		}
		if back, ok := impl.JoinStrings(parts, ","); !ok || back != s {
			t.Errorf("JoinStrings(%q) = %q, %v; want %q", parts, back, ok, s)
		}
	}
}

func TestJoiningRoundTrips(t *testing.T) {
	texts := textsOver("a\x00", 2)
	for _, a := range texts {
		for _, b := range texts {
			for _, parts := range [][]string{{a}, {a, b}, {a, b, a}, {"", a, "", b}} {
				s, ok := impl.JoinStrings(parts, ",")
				back, fine := impl.SplitString(s, ",")
				if !ok || !fine || !slices.Equal(back, parts) {
					t.Errorf("%q joined %q, split %q", parts, s, back)
				}
			}
		}
	}
}

func TestLessStringComparesByteByByte(t *testing.T) {
	for _, c := range [][2]string{
		{"", "a"}, {"a", "ab"}, {"ab", "b"}, {"a", "a\x00"}, {"10", "9"}, {"A", "a"}, {"Z", "a"},
		{"\x7f", "\x80"}, {"a", "\xff"}, {"\u00e9", "\xff"}, {"\uffff", "\U00010000"},
	} {
		if !impl.LessString(c[0], c[1]) || impl.LessString(c[1], c[0]) {
			t.Errorf("%q is less than %q", c[0], c[1])
		}
	}
	texts := textsOver("\x00a\x80\xff", 3)
	for _, a := range texts {
		for _, b := range texts {
			if got, want := impl.LessString(a, b), bytes.Compare([]byte(a), []byte(b)) < 0; got != want {
				t.Errorf("LessString(%q, %q) = %v", a, b, got)
			}
		}
	}
}

func TestLessStringOfLongTexts(t *testing.T) {
	long := strings.Repeat("a", 3*impl.MaxString)
	if !impl.LessString(long, long+"a") || impl.LessString(long+"a", long) || impl.LessString(long, long) {
		t.Error("texts of any length are compared")
	}
	if !impl.LessString(long+"a", long+"b") || impl.LessString(long+"b", long+"a") {
		t.Error("the last byte counts")
	}
}
