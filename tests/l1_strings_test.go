package tests

import (
	"bytes"
	"math"
	"regexp"
	"slices"
	"strconv"
	"strings"
	"testing"

	"loop.example/g01131/impl"
)

func TestPromise1Limits(t *testing.T) {
	if impl.MaxString != bound || impl.MaxDecimal != 999999 {
		t.Error("limits", impl.MaxString, impl.MaxDecimal)
	}
}

func TestPromise1DecimalsRoundTrip(t *testing.T) {
	for n := -999999; n <= 999999; n++ {
		s, ok := impl.FormatInt(n)
		if want := strconv.Itoa(n); !ok || s != want {
			t.Fatalf("FormatInt(%d) = %q, %v", n, s, ok)
		}
		if m, ok := impl.ParseInt(s); !ok || m != n {
			t.Fatalf("ParseInt(%q) = %d, %v", s, m, ok)
		}
	}
}

func TestPromise1FormatIntOutOfBounds(t *testing.T) {
	for _, n := range []int{1000000, -1000000, 1000001, 1 << 32, -1 << 32, math.MaxInt, math.MinInt, math.MinInt + 1} {
		if s, ok := impl.FormatInt(n); ok || s != "" {
			t.Errorf("FormatInt(%d) = %q, %v", n, s, ok)
		}
	}
}

func TestPromise1ParseIntOfNamedTexts(t *testing.T) {
	for s, want := range map[string]int{"0": 0, "-1": -1, "9": 9, "-10": -10, "100": 100, "999999": 999999, "-999999": -999999} {
		if n, ok := impl.ParseInt(s); !ok || n != want {
			t.Errorf("ParseInt(%q) = %d, %v", s, n, ok)
		}
	}
	for _, s := range []string{
		"", "-", "+", "--1", "+-1", "-+1", "1-", "1-1", "-0", "+0", "00", "-00", "01", "-01", "000001", "0000000",
		"+1", "+999999", "1000000", "-1000000", "9999999", "4294967297", "9223372036854775808",
		"18446744073709551616", "18446744073709551617", "-18446744073709551615",
		" 1", "1 ", "1\n", "\t1", "1x", "x1", "1.0", "1,0", "1_0", "0x1", "1e1", "\x00", "1\x00", "\xff", "１", "٣", "−1",
		strings.Repeat("0", bound) + "1", strings.Repeat("9", bound+1), "-" + strings.Repeat("1", 100000),
	} {
		if n, ok := impl.ParseInt(s); ok || n != 0 {
			t.Errorf("ParseInt(%.30q) = %d, %v", s, n, ok)
		}
	}
}

func TestPromise1ParseIntOfAllShortTexts(t *testing.T) {
	decimal := regexp.MustCompile(`^(0|-?[1-9][0-9]{0,5})\z`)
	for _, s := range append(shortTexts("-+019 /:x", 5), shortTexts("09-", 9)...) {
		n, ok := impl.ParseInt(s)
		want := 0
		if decimal.MatchString(s) {
			want, _ = strconv.Atoi(s)
		}
		if ok != decimal.MatchString(s) || n != want {
			t.Errorf("ParseInt(%q) = %d, %v", s, n, ok)
		}
	}
}

func TestPromise1SplitString(t *testing.T) {
	for _, x := range []struct {
		s, sep string
		want   []string
	}{
		{"a,,b", ",", []string{"a", "", "b"}},
		{"", ",", []string{""}},
		{",", ",", []string{"", ""}},
		{",,", ",", []string{"", "", ""}},
		{"a", ",", []string{"a"}},
		{",a", ",", []string{"", "a"}},
		{"a,", ",", []string{"a", ""}},
		{"a b;c", ";", []string{"a b", "c"}},
		{"a\nb\n", "\n", []string{"a", "b", ""}},
		{"a\x00b", "\x00", []string{"a", "b"}},
		{"a\xffb\xfe", "\xff", []string{"a", "b\xfe"}},
		{"é", "\xa9", []string{"\xc3", ""}},
		{"é", "\xc3", []string{"", "\xa9"}},
		{"#a#", "#", []string{"", "a", ""}},
	} {
		if got, ok := impl.SplitString(x.s, x.sep); !ok || !slices.Equal(got, x.want) {
			t.Errorf("SplitString(%q, %q) = %q, %v", x.s, x.sep, got, ok)
		}
	}
}

func TestPromise1SplitStringBounds(t *testing.T) {
	for _, s := range []string{strings.Repeat("a", bound), strings.Repeat(",", bound), strings.Repeat("ab,d", bound/4)} {
		got, ok := impl.SplitString(s, ",")
		if !ok || len(got) != strings.Count(s, ",")+1 || strings.Join(got, ",") != s {
			t.Errorf("%.9q of MaxString bytes: %d parts, %v", s, len(got), ok)
		}
		if got, ok := impl.SplitString(s+"a", ","); ok || len(got) != 0 {
			t.Errorf("%.9q of one byte more: %d parts, %v", s, len(got), ok)
		}
	}
}

func TestPromise1SeparatorsOfOtherLengths(t *testing.T) {
	for _, sep := range []string{"", ",,", "ab", "é", ", ", "\x00\x00", strings.Repeat(",", bound+1)} {
		for _, s := range []string{"", "a", "a,,b", "é"} {
			if got, ok := impl.SplitString(s, sep); ok || len(got) != 0 {
				t.Errorf("SplitString(%q, %.9q) = %q, %v", s, sep, got, ok)
			}
		}
		for _, parts := range [][]string{nil, {}, {""}, {"a"}, {"a", "b"}, {"", ""}} {
			if got, ok := impl.JoinStrings(parts, sep); ok || got != "" {
				t.Errorf("JoinStrings(%q, %.9q) = %q, %v", parts, sep, got, ok)
			}
		}
	}
}

func TestPromise1JoinStrings(t *testing.T) {
	for _, x := range []struct {
		parts []string
		sep   string
		want  string
	}{
		{[]string{"a", "", "b"}, ";", "a;;b"},
		{[]string{""}, ",", ""},
		{[]string{"", ""}, ",", ","},
		{[]string{"a"}, ",", "a"},
		{[]string{"", "a", ""}, ",", ",a,"},
		{[]string{"a,b", "c"}, ";", "a,b;c"},
		{[]string{"\xc3", ""}, "\xa9", "é"},
		{[]string{"a#b", "c\x00"}, "\n", "a#b\nc\x00"},
	} {
		if got, ok := impl.JoinStrings(x.parts, x.sep); !ok || got != x.want {
			t.Errorf("JoinStrings(%q, %q) = %q, %v", x.parts, x.sep, got, ok)
		}
	}
}

func TestPromise1SeparatorInsideAnElement(t *testing.T) {
	for _, parts := range [][]string{{";"}, {"a;b"}, {";a"}, {"a;"}, {"a", "b;c"}, {"a;b", "c"}, {"a", ";", "c"}, {"", "", ";;"}} {
		if got, ok := impl.JoinStrings(parts, ";"); ok || got != "" {
			t.Errorf("JoinStrings(%q, %q) = %q, %v", parts, ";", got, ok)
		}
	}
	if got, ok := impl.JoinStrings([]string{"é"}, "\xa9"); ok || got != "" {
		t.Errorf("a byte of a longer character: %q, %v", got, ok)
	}
	if got, ok := impl.JoinStrings(nil, ";"); ok || got != "" {
		t.Errorf("no elements: %q, %v", got, ok)
	}
}

func TestPromise1JoinStringsBounds(t *testing.T) {
	long := strings.Repeat("a", bound)
	for _, x := range []struct {
		name  string
		parts []string
		ok    bool
	}{
		{"one element of MaxString bytes", []string{long}, true},
		{"one element of one byte more", []string{long + "a"}, false},
		{"two elements, MaxString bytes", []string{long[:bound/2], long[:bound/2-1]}, true},
		{"two elements, one byte more", []string{long[:bound/2], long[:bound/2]}, false},
		{"too long by the separator alone", []string{long, ""}, false},
		{"too long in the first element", []string{long + "a", ""}, false},
		{"MaxString separators", make([]string, bound+1), true},
		{"one separator more", make([]string, bound+2), false},
		{"many more elements", make([]string, 1<<20), false},
	} {
		got, ok := impl.JoinStrings(x.parts, ",")
		want := ""
		if x.ok {
			want = strings.Join(x.parts, ",")
		}
		if ok != x.ok || got != want {
			t.Errorf("%s: %d bytes, %v", x.name, len(got), ok)
		}
	}
}

func TestPromise1SplittingRoundTrips(t *testing.T) {
	texts := append(shortTexts(",;a\xff", 6), allBytes(), strings.Repeat(allBytes(), 15))
	for _, s := range texts {
		for _, sep := range []string{",", ";", "\xff", "z"} {
			parts, ok := impl.SplitString(s, sep)
			if !ok || len(parts) != strings.Count(s, sep)+1 {
				t.Fatalf("SplitString(%q, %q) = %q, %v", s, sep, parts, ok)
			}
			if got, ok := impl.JoinStrings(parts, sep); !ok || got != s {
				t.Fatalf("JoinStrings(%q, %q) = %q, %v", parts, sep, got, ok)
			}
		}
	}
}

func TestPromise1JoiningRoundTrips(t *testing.T) {
	words := shortTexts("a;\xff", 2)
	for _, a := range words {
		for _, b := range words {
			for _, c := range words {
				for _, parts := range [][]string{{a}, {a, b}, {a, b, c}} {
					checkJoined(t, parts, ",")
					checkJoined(t, parts, ";")
				}
			}
		}
	}
}

func checkJoined(t *testing.T, parts []string, sep string) {
	t.Helper()
	within := func(part string) bool { return strings.Contains(part, sep) }
	s, ok := impl.JoinStrings(parts, sep)
	if slices.ContainsFunc(parts, within) {
		if ok || s != "" {
			t.Fatalf("JoinStrings(%q, %q) = %q, %v", parts, sep, s, ok)
		}
		return
	}
	if got, fine := impl.SplitString(s, sep); !ok || !fine || !slices.Equal(got, parts) {
		t.Fatalf("%q joined by %q is %q, split %q", parts, sep, s, got)
	}
}

func TestPromise1LessString(t *testing.T) {
	if !impl.LessString("a", "ab") || impl.LessString("ab", "a") || impl.LessString("a", "a") || impl.LessString("", "") {
		t.Error("prefixes")
	}
	long := strings.Repeat("a", bound+1)
	if !impl.LessString(long, long+"a") || !impl.LessString(long+"a", long+"b") || impl.LessString(long, long) {
		t.Error("texts of more than MaxString bytes")
	}
	texts := append(shortTexts("\x00a\x7f\x80\xff", 3), "é", "z", "Z", "10", "9")
	for _, a := range texts {
		for _, b := range texts {
			if got := impl.LessString(a, b); got != (bytes.Compare([]byte(a), []byte(b)) < 0) {
				t.Errorf("LessString(%q, %q) = %v", a, b, got)
			}
		}
	}
}
