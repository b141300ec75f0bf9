package tests

import (
	"strconv"
	"strings"
	"testing"

	"loop.example/g01131/impl"
)

func TestPromise1Checksum(t *testing.T) {
	for s, want := range map[string]int{"": 7, "a": 385, "\x00": 288, "\xff": 543} {
		if n, ok := impl.Checksum(s); !ok || n != want {
			t.Errorf("Checksum(%q) = %d, %v", s, n, ok)
		}
	}
	texts := append(shortTexts("a#\x00\xff", 5), allBytes(), strings.Repeat("\xff", bound), strings.Repeat("a", bound))
	for _, s := range texts {
		if n, ok := impl.Checksum(s); !ok || n != sumByPowers(s) {
			t.Errorf("Checksum(%.9q) of %d bytes = %d, %v", s, len(s), n, ok)
		}
	}
}

func TestPromise1ChecksumOfTooLongTexts(t *testing.T) {
	for _, size := range []int{bound + 1, bound + 2, 100 * bound} {
		if n, ok := impl.Checksum(strings.Repeat("a", size)); ok || n != 0 {
			t.Errorf("Checksum of %d bytes = %d, %v", size, n, ok)
		}
	}
}

func TestPromise1AppendChecksum(t *testing.T) {
	texts := append(shortTexts("a0 \x00\xff", 5), "a", plainBytes(), "12", "a\n", "é")
	for _, s := range texts {
		want := s + "#" + strconv.Itoa(sumByPowers(s))
		if got, ok := impl.AppendChecksum(s); !ok || got != want {
			t.Errorf("AppendChecksum(%q) = %q, %v", s, got, ok)
		}
		if got, ok := impl.VerifyChecksum(want); !ok || got != s {
			t.Errorf("VerifyChecksum(%q) = %q, %v", want, got, ok)
		}
	}
}

func TestPromise1AppendChecksumToAMark(t *testing.T) {
	for _, s := range []string{"#", "a#", "#a", "a#b", "##", "a#385", strings.Repeat("a", bound/2) + "#"} {
		if got, ok := impl.AppendChecksum(s); ok || got != "" {
			t.Errorf("AppendChecksum(%.9q) = %.9q, %v", s, got, ok)
		}
	}
}

func TestPromise1AppendChecksumBounds(t *testing.T) {
	for _, x := range []struct {
		size, digits int
		ok           bool
	}{
		{bound - 7, 6, true},
		{bound - 6, 5, true},
		{bound - 5, 4, true},
		{bound - 6, 6, false},
		{bound - 5, 5, false},
		{bound - 4, 4, false},
		{bound - 1, 4, false},
		{bound, 6, false},
		{bound + 1, 6, false},
	} {
		s := textWithDigits(x.size, x.digits)
		sealed := s + "#" + strconv.Itoa(sumByPowers(s))
		want, opened := "", ""
		if x.ok {
			want, opened = sealed, s
		}
		if got, ok := impl.AppendChecksum(s); ok != x.ok || got != want {
			t.Errorf("AppendChecksum of %d bytes, %d digits: %d bytes, %v", x.size, x.digits, len(got), ok)
		}
		if got, ok := impl.VerifyChecksum(sealed); ok != x.ok || got != opened {
			t.Errorf("VerifyChecksum of %d bytes, %d digits: %d bytes, %v", len(sealed), x.digits, len(got), ok)
		}
	}
	if got, ok := impl.AppendChecksum(strings.Repeat("a", 100*bound)); ok || got != "" {
		t.Errorf("AppendChecksum of far too long a text: %d bytes, %v", len(got), ok)
	}
}

func TestPromise1EachChangedByteIsDetected(t *testing.T) {
	for _, s := range []string{"", "a", "0", "\x00", "\xff", "123", "two words", "a\n", plainBytes()} {
		sealed, ok := impl.AppendChecksum(s)
		if !ok {
			t.Fatalf("AppendChecksum(%q) fails", s)
		}
		for i := range len(sealed) {
			for c := range 256 {
				checkChanged(t, sealed, i, byte(c))
			}
		}
	}
}

func TestPromise1EachChangedByteOfALongTextIsDetected(t *testing.T) {
	sealed, ok := impl.AppendChecksum(textWithDigits(bound-7, 6))
	if !ok || len(sealed) != bound {
		t.Fatal("no text of MaxString bytes", len(sealed))
	}
	for i := range len(sealed) {
		for _, c := range []byte{0, '#', '0', '1', sealed[i] - 1, sealed[i] + 1, sealed[i] ^ 128, 255} {
			checkChanged(t, sealed, i, c)
		}
	}
}

func checkChanged(t *testing.T, sealed string, i int, c byte) {
	t.Helper()
	if sealed[i] == c {
		return
	}
	changed := sealed[:i] + string([]byte{c}) + sealed[i+1:]
	if got, ok := impl.VerifyChecksum(changed); ok || got != "" {
		t.Fatalf("byte %d of %.30q as %d is not detected", i, sealed, c)
	}
}

func TestPromise1VerifyChecksumOfOtherTexts(t *testing.T) {
	for _, s := range []string{
		"", "#", "##", "a", "a#", "#385", "a#384", "a#386", "a#0385", "a#00385", "a#+385", "a#-385", "a# 385", "a#385 ",
		"a#385\n", "a#385\x00", "a #385", "a#385#", "a#385#1", "#a#385", "##7", "7", "#07", "#7#7", "b#385", "a#1000364",
		"a#1385", "a#3855", "a#38", "a##385", "a385", "a#385a#385", "a#x", "a#３８５",
		strings.Repeat("a", bound), strings.Repeat("#", bound), strings.Repeat("a", 100*bound) + "#385", "a#385" + strings.Repeat("0", bound),
	} {
		if got, ok := impl.VerifyChecksum(s); ok || got != "" {
			t.Errorf("VerifyChecksum(%.30q) = %.30q, %v", s, got, ok)
		}
	}
}

// A text of which a part has a mark must not pass with the checksum of the whole part.
func TestPromise1VerifyChecksumOfAMarkWithin(t *testing.T) {
	for _, text := range []string{"#", "a#b", "a#385", "#7"} {
		s := text + "#" + strconv.Itoa(sumByPowers(text))
		if got, ok := impl.VerifyChecksum(s); ok || got != "" {
			t.Errorf("VerifyChecksum(%q) = %q, %v", s, got, ok)
		}
	}
}
