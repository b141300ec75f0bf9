package tests

import (
	"fmt"
	"math"
	"math/big"
	"testing"

	"loop.example/g01131/impl"
)

// Behind k faces, each throw shows a new one with the chance of those that are left.
func TestPromise9CouponMeans(t *testing.T) {
	for n := 1; n <= mostCards; n++ {
		want := rat(0, 1)
		for k := range n {
			want.Add(want, rat(n, n-k))
		}
		got, ok := impl.CouponMean(n)
		checkFraction(t, fmt.Sprint("CouponMean of ", n), got, ok, want)
	}
	for n, want := range map[int][2]int{1: {1, 1}, 2: {3, 1}, 3: {11, 2}, 4: {25, 3}, 6: {147, 10}, 11: {83711, 2520}, mostCards: {86021, 2310}} {
		if got, ok := impl.CouponMean(n); !ok || got != want {
			t.Errorf("CouponMean(%d) = %v, %v", n, got, ok)
		}
	}
}

// facesShown returns for each set of faces the number of lists of m throws that show just these.
func facesShown(n int, m int) []int {
	counts := make([]int, 1<<n)
	counts[0] = 1
	for range m {
		next := make([]int, 1<<n)
		for set, count := range counts {
			for face := range n {
				next[set|1<<face] += count
			}
		}
		counts = next
	}
	return counts
}

func TestPromise9CouponCounts(t *testing.T) {
	for n := 1; n <= mostThrow; n++ {
		for m := range mostThrow + 1 {
			checkCount(t, facesShown(n, m)[1<<n-1])(impl.CouponCounts(n, m))
			if pow(n, m) > 50000 {
				continue
			}
			count := 0
			tuples(facesOf(n), m, func(throws []int) {
				set := 0
				for _, face := range throws {
					set |= 1 << face
				}
				if set == 1<<n-1 {
					count++
				}
			})
			checkCount(t, count)(impl.CouponCounts(n, m))
		}
		checkCount(t, factorial(n))(impl.CouponCounts(n, n))
		checkCount(t, 0)(impl.CouponCounts(n, n-1))
		checkCount(t, 0)(impl.CouponCounts(n, 0))
		checkCount(t, 1)(impl.CouponCounts(1, n))
	}
	checkCount(t, 6)(impl.CouponCounts(2, 3))
	checkCount(t, 40824)(impl.CouponCounts(4, mostThrow))
	checkCount(t, 40320)(impl.CouponCounts(mostThrow, mostThrow))
}

func TestPromise9RecordMeans(t *testing.T) {
	for n := 1; n <= mostCards; n++ {
		got, ok := impl.RecordMean(n)
		checkFraction(t, fmt.Sprint("RecordMean of ", n), got, ok, harmonic(n))
		sum := 0
		for r, count := range countOrders(n, isRecord) {
			sum += r * count
		}
		checkFraction(t, fmt.Sprint("RecordMean of ", n), got, ok, rat(sum, factorial(n)))
		coupons, okCoupons := impl.CouponMean(n)
		if !okCoupons || new(big.Rat).Mul(exact(got), rat(n, 1)).Cmp(exact(coupons)) != 0 {
			t.Errorf("RecordMean(%d) is %v, and CouponMean %v", n, got, coupons)
		}
	}
	for n, want := range map[int][2]int{1: {1, 1}, 2: {3, 2}, 3: {11, 6}, 4: {25, 12}, mostCards: {86021, 27720}} {
		if got, ok := impl.RecordMean(n); !ok || got != want {
			t.Errorf("RecordMean(%d) = %v, %v", n, got, ok)
		}
	}
}

func TestPromise9CountsOfOrders(t *testing.T) {
	for n := range mostCards + 1 {
		matches := countOrders(n, isAtHome)
		checkList(t, countOrders(n, isRecord))(impl.RecordCounts(n))
		checkList(t, matches)(impl.MatchCounts(n))
		checkCount(t, matches[0])(impl.DerangedCount(n))
	}
}

func TestPromise9CountsOfAllOrders(t *testing.T) {
	for n := range 8 {
		records, matches := make([]int, n+1), make([]int, n+1)
		orders(n, func(order []int) {
			record, match := 0, 0
			for place, card := range order {
				// A card is a record if as many cards before it are less as there are.
				if rankAt(order, place) == place {
					record++
				}
				if card == place {
					match++
				}
			}
			records[record]++
			matches[match]++
		})
		checkList(t, records)(impl.RecordCounts(n))
		checkList(t, matches)(impl.MatchCounts(n))
		checkCount(t, matches[0])(impl.DerangedCount(n))
	}
}

func TestPromise9KnownCountsOfOrders(t *testing.T) {
	checkList(t, []int{1})(impl.RecordCounts(0))
	checkList(t, []int{0, 1})(impl.RecordCounts(1))
	checkList(t, []int{0, 2, 3, 1})(impl.RecordCounts(3))
	checkList(t, []int{0, 6, 11, 6, 1})(impl.RecordCounts(4))
	checkList(t, []int{0, 39916800, 120543840, 150917976, 105258076, 45995730, 13339535, 2637558, 357423, 32670, 1925, 66, 1})(impl.RecordCounts(mostCards))
	checkList(t, []int{1})(impl.MatchCounts(0))
	checkList(t, []int{0, 1})(impl.MatchCounts(1))
	checkList(t, []int{2, 3, 0, 1})(impl.MatchCounts(3))
	checkList(t, []int{9, 8, 6, 0, 1})(impl.MatchCounts(4))
	checkList(t, []int{176214841, 176214840, 88107426, 29369120, 7342335, 1468368, 244860, 34848, 4455, 440, 66, 0, 1})(impl.MatchCounts(mostCards))
	for n, want := range []int{1, 0, 1, 2, 9, 44, 265, 1854, 14833, 133496, 1334961, 14684570, 176214841} {
		checkCount(t, want)(impl.DerangedCount(n))
	}
}

func TestPromise9NoCards(t *testing.T) {
	for _, n := range []int{0, -1, mostCards + 1, math.MaxInt, math.MinInt} {
		for _, call := range []func(n int) ([2]int, bool){impl.CouponMean, impl.RecordMean} {
			if got, ok := call(n); ok || got != [2]int{} {
				t.Errorf("a mean of %d cards = %v, %v", n, got, ok)
			}
		}
		if n != 0 {
			checkNoList(t)(impl.RecordCounts(n))
			checkNoList(t)(impl.MatchCounts(n))
			checkNoCount(t)(impl.DerangedCount(n))
		}
	}
	for _, n := range []int{0, -1, mostThrow + 1, mostCards, math.MaxInt, math.MinInt} {
		for m := range mostThrow + 1 {
			checkNoCount(t)(impl.CouponCounts(n, m))
			if n != 0 {
				checkNoCount(t)(impl.CouponCounts(max(m, 1), n))
			}
		}
		checkNoCount(t)(impl.CouponCounts(n, n))
	}
}
