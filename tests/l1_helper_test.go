package tests

import (
	"math/big"
	"strconv"
	"strings"
)

// bound is MaxString, written out so that a changed constant is noticed.
const bound = 4000

// shortTexts returns all texts of at most most bytes of an alphabet.
func shortTexts(alphabet string, most int) []string {
	texts := []string{""}
	last := texts
	for range most {
		var next []string
		for _, text := range last {
			for i := range len(alphabet) {
				next = append(next, text+alphabet[i:i+1])
			}
		}
		texts = append(texts, next...)
		last = next
	}
	return texts
}

// allBytes returns a text that has each byte once.
func allBytes() string {
	text := make([]byte, 256)
	for i := range text {
		text[i] = byte(i)
	}
	return string(text)
}

// plainBytes returns a text that has each byte once, without `#`.
func plainBytes() string {
	return strings.ReplaceAll(allBytes(), "#", "")
}

// sumByPowers computes a checksum as a sum of powers of 41 with numbers of any size, and so
// in another way than the program does.
func sumByPowers(s string) int {
	sum := big.NewInt(0)
	power := big.NewInt(1)
	for i := len(s) - 1; i >= 0; i-- {
		term := big.NewInt(int64(s[i]) + 1)
		sum.Add(sum, term.Mul(term, power))
		power.Mul(power, big.NewInt(41))
		power.Mod(power, big.NewInt(999979))
	}
	sum.Add(sum, power.Mul(power, big.NewInt(7)))
	return int(sum.Mod(sum, big.NewInt(999979)).Int64())
}

// textWithDigits returns a text of size bytes whose checksum has a number of digits.
func textWithDigits(size int, digits int) string {
	// A byte at the start moves the checksum by a great power of 41, so few numbers are tried.
	for n := 0; ; n++ {
		start := strconv.Itoa(n)
		text := start + strings.Repeat("k", size-len(start))
		if len(strconv.Itoa(sumByPowers(text))) == digits {
			return text
		}
	}
}
