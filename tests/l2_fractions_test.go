package tests

import (
	"fmt"
	"math"
	"math/big"
	"testing"

	"loop.example/g01131/impl"
)

func TestPromise2Limits(t *testing.T) {
	if impl.MaxTree != mostNodes || impl.MaxWeight != mostWeight || impl.MaxPay != mostPay {
		t.Error("limits of Trees", impl.MaxTree, impl.MaxWeight, impl.MaxPay)
	}
	if impl.MaxTop != mostTop || impl.MaxBottom != mostBottom {
		t.Error("limits of fractions", impl.MaxTop, impl.MaxBottom)
	}
}

// badFractions returns pairs that are no fractions.
func badFractions() [][2]int {
	return [][2]int{
		{0, 0}, {0, 2}, {0, mostBottom}, {0, -1}, {1, 0}, {1, -1}, {-1, -1}, {2, 4}, {-2, 2}, {6, 3},
		{mostTop + 1, 1}, {-mostTop - 1, 1}, {1, mostBottom + 1}, {1, -mostBottom}, {mostTop, mostBottom},
		{mostTop, 2}, {math.MaxInt, 1}, {math.MinInt, 1}, {1, math.MaxInt}, {1, math.MinInt},
		{math.MinInt, math.MinInt}, {math.MinInt, -1}, {math.MaxInt, math.MinInt},
	}
}

// goodFractions returns fractions, with those at the limits.
func goodFractions() [][2]int {
	all := [][2]int{
		{0, 1}, {mostTop, 1}, {-mostTop, 1}, {1, mostBottom}, {-1, mostBottom},
		{mostTop - 1, mostBottom}, {1 - mostTop, mostBottom}, {mostTop, mostBottom - 1}, {mostTop, 999983},
		{500000001, 1}, {500000000, 1}, {-500000000, 1}, {31623, 1}, {31622, 1}, {1, 1000}, {1, 1001}, {999999, 1000},
	}
	for a := -7; a <= 7; a++ {
		for b := 1; b <= 7; b++ {
			if f := rat(a, b); f.Denom().Int64() == int64(b) {
				all = append(all, [2]int{a, b})
			}
		}
	}
	return all
}

func TestPromise2IsFraction(t *testing.T) {
	for _, f := range goodFractions() {
		if !impl.IsFraction(f) {
			t.Errorf("IsFraction(%v) is false", f)
		}
	}
	for _, f := range badFractions() {
		if impl.IsFraction(f) {
			t.Errorf("IsFraction(%v) is true", f)
		}
	}
	for a := -30; a <= 30; a++ {
		for b := -3; b <= 30; b++ {
			want := b > 0 && rat(a, b).Denom().Int64() == int64(b)
			if impl.IsFraction([2]int{a, b}) != want {
				t.Errorf("IsFraction(%d, %d) is %v", a, b, !want)
			}
		}
	}
}

func TestPromise2FractionOf(t *testing.T) {
	numbers := []int{
		1, 2, 3, 4, 6, 12, 35, 999, 1000, mostBottom - 1, mostBottom, mostBottom + 1, 2 * mostBottom, 3 * mostBottom,
		mostTop - 1, mostTop, mostTop / 2, 999999937,
	}
	for _, a := range append(numbers, 0) {
		for _, b := range numbers {
			for _, x := range [][2]int{{a, b}, {-a, b}, {a, -b}, {-a, -b}} {
				got, ok := impl.FractionOf(x[0], x[1])
				checkFraction(t, fmt.Sprint("FractionOf", x), got, ok, rat(x[0], x[1]))
			}
		}
	}
	for _, x := range [][2]int{
		{0, 0}, {1, 0}, {mostTop, 0}, {mostTop + 1, mostTop + 1}, {1, mostTop + 1}, {-mostTop - 1, 1}, {2 * mostTop, 2},
		{2, 2 * mostTop}, {0, mostTop + 1}, {0, -mostTop - 1}, {math.MinInt, math.MinInt}, {math.MinInt, -1},
		{math.MaxInt, math.MaxInt}, {1, math.MinInt}, {0, math.MinInt},
	} {
		if got, ok := impl.FractionOf(x[0], x[1]); ok || got != [2]int{} {
			t.Errorf("FractionOf%v = %v, %v", x, got, ok)
		}
	}
}

func TestPromise2SumsAndProductsOfFractions(t *testing.T) {
	all := goodFractions()
	for _, f := range all {
		for _, g := range all {
			sum, ok := impl.AddFractions(f, g)
			checkFraction(t, fmt.Sprint("AddFractions", f, g), sum, ok, new(big.Rat).Add(exact(f), exact(g)))
			product, ok := impl.TimesFractions(f, g)
			checkFraction(t, fmt.Sprint("TimesFractions", f, g), product, ok, new(big.Rat).Mul(exact(f), exact(g)))
			order, ok := impl.CompareFractions(f, g)
			if !ok || order != exact(f).Cmp(exact(g)) {
				t.Errorf("CompareFractions(%v, %v) = %d, %v", f, g, order, ok)
			}
		}
	}
}

func TestPromise2OtherPairsAreNotCalculatedWith(t *testing.T) {
	for _, bad := range badFractions() {
		for _, other := range append(badFractions(), [2]int{0, 1}, [2]int{1, 2}, [2]int{mostTop, 1}) {
			for _, x := range [][2][2]int{{bad, other}, {other, bad}} {
				if got, ok := impl.AddFractions(x[0], x[1]); ok || got != [2]int{} {
					t.Errorf("AddFractions%v = %v, %v", x, got, ok)
				}
				if got, ok := impl.TimesFractions(x[0], x[1]); ok || got != [2]int{} {
					t.Errorf("TimesFractions%v = %v, %v", x, got, ok)
				}
				if got, ok := impl.CompareFractions(x[0], x[1]); ok || got != 0 {
					t.Errorf("CompareFractions%v = %v, %v", x, got, ok)
				}
			}
		}
	}
}
