package tests

import (
	"math"
	"slices"
	"strings"
	"testing"

	"loop.example/g01131/impl"
)

// oddTexts returns texts of all lengths and spellings that could trouble a function of texts.
func oddTexts() []string {
	return append(shortTexts("#,-09\x00\xff", 3),
		allBytes(), "é", "\xc3", "\xed\xa0\x80", "a#385", "999999", "-1000000",
		strings.Repeat("a", bound-1), strings.Repeat("a", bound), strings.Repeat("a", bound+1),
		strings.Repeat(",", bound), strings.Repeat(",", bound+1), strings.Repeat("#", bound+1),
		strings.Repeat("9", 1<<20), strings.Repeat(",", 1<<20))
}

// A panic in a call fails the test, as does a call that does not return.
func TestPromise13TextsOfAllKinds(t *testing.T) {
	for _, s := range oddTexts() {
		if n, ok := impl.ParseInt(s); !ok && n != 0 {
			t.Errorf("ParseInt(%.30q) fails with %d", s, n)
		}
		if n, ok := impl.Checksum(s); ok != (len(s) <= bound) || !ok && n != 0 {
			t.Errorf("Checksum(%.30q) = %d, %v", s, n, ok)
		}
		if x, ok := impl.AppendChecksum(s); !ok && x != "" {
			t.Errorf("AppendChecksum(%.30q) fails with %.30q", s, x)
		}
		if x, ok := impl.VerifyChecksum(s); !ok && x != "" {
			t.Errorf("VerifyChecksum(%.30q) fails with %.30q", s, x)
		}
	}
}

func TestPromise13PairsOfTexts(t *testing.T) {
	texts := oddTexts()
	for i, s := range texts {
		for j, sep := range texts {
			parts, ok := impl.SplitString(s, sep)
			if ok != (len(s) <= bound && len(sep) == 1) || !ok && len(parts) != 0 {
				t.Fatalf("SplitString(%.30q, %.30q): %d parts, %v", s, sep, len(parts), ok)
			}
			if x, ok := impl.JoinStrings([]string{s}, sep); !ok && x != "" {
				t.Fatalf("JoinStrings([%.30q], %.30q) fails with %.30q", s, sep, x)
			}
			if impl.LessString(s, sep) && impl.LessString(sep, s) || i == j && impl.LessString(s, sep) {
				t.Fatalf("LessString(%.30q, %.30q) is no order", s, sep)
			}
		}
	}
}

func TestPromise13NumbersOfAllKinds(t *testing.T) {
	for shift := range 64 {
		for _, near := range []int{-1, 0, 1} {
			n := 1<<shift + near
			for _, n := range []int{n, -n} {
				s, ok := impl.FormatInt(n)
				if ok != (-999999 <= n && n <= 999999) || ok == (s == "") {
					t.Errorf("FormatInt(%d) = %q, %v", n, s, ok)
				}
			}
		}
	}
	for _, n := range []int{math.MinInt, math.MaxInt} {
		if s, ok := impl.FormatInt(n); ok || s != "" {
			t.Errorf("FormatInt(%d) = %q, %v", n, s, ok)
		}
	}
}

// The list has room behind its end, which a function that appends to it would write to.
func TestPromise13JoinStringsKeepsItsArgument(t *testing.T) {
	for _, list := range [][]string{
		{"a", "", "b", "behind", "the end"},
		{"b;c", "a", ";", "behind", "the end"},
		{strings.Repeat("a", bound), "b", "c", "behind", "the end"},
	} {
		kept := slices.Clone(list)
		for _, sep := range []string{";", "", ";;"} {
			impl.JoinStrings(list[:3], sep)
			if !slices.Equal(list, kept) {
				t.Fatalf("JoinStrings(%.30q, %q) modifies its argument", kept[:3], sep)
			}
		}
	}
}

// A result that is written to must not change what the next call returns.
func TestPromise13SplitStringReturnsNewMemory(t *testing.T) {
	for range 3 {
		for s, want := range map[string][]string{"a,,b": {"a", "", "b"}, "": {""}, ",": {"", ""}} {
			got, ok := impl.SplitString(s, ",")
			if !ok || !slices.Equal(got, want) {
				t.Fatalf("SplitString(%q) = %q, %v", s, got, ok)
			}
			again, _ := impl.SplitString(s, ",")
			for i := range got {
				got[i] = "changed"
			}
			_ = append(got, "more")
			if !slices.Equal(again, want) {
				t.Fatalf("two results for %q share memory", s)
			}
		}
	}
}

func TestPromise13SameArgumentsSameResults(t *testing.T) {
	for _, s := range oddTexts() {
		n, fine := impl.ParseInt(s)
		sum, counted := impl.Checksum(s)
		sealed, closed := impl.AppendChecksum(s)
		text, opened := impl.VerifyChecksum(s)
		parts, split := impl.SplitString(s, ",")
		if m, ok := impl.ParseInt(s); m != n || ok != fine {
			t.Errorf("ParseInt(%.30q) differs", s)
		}
		if m, ok := impl.Checksum(s); m != sum || ok != counted {
			t.Errorf("Checksum(%.30q) differs", s)
		}
		if x, ok := impl.AppendChecksum(s); x != sealed || ok != closed {
			t.Errorf("AppendChecksum(%.30q) differs", s)
		}
		if x, ok := impl.VerifyChecksum(s); x != text || ok != opened {
			t.Errorf("VerifyChecksum(%.30q) differs", s)
		}
		if x, ok := impl.SplitString(s, ","); !slices.Equal(x, parts) || ok != split {
			t.Errorf("SplitString(%.30q) differs", s)
		}
	}
}
