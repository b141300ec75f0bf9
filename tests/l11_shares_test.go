package tests

import (
	"fmt"
	"math"
	"math/big"
	"slices"
	"testing"

	"loop.example/g01131/impl"
)

func TestPromise11Limits(t *testing.T) {
	got := []int{impl.MaxOdds, impl.MaxLuck, impl.MaxGrid, impl.MaxSplit, impl.MaxUse, impl.MaxHoard, impl.MaxRounds}
	if !slices.Equal(got, []int{mostOdds, mostLuck, mostGrid, mostSplit, mostUse, mostHoard, mostRounds}) {
		t.Errorf("the limits of stakes are others: %v", got)
	}
}

func TestPromise11Growths(t *testing.T) {
	for _, x := range allBets() {
		for n := 1; n <= mostGrid; n++ {
			for k := range n + 1 {
				checkCount(t, x.growth(n, k))(impl.GrowthOf(x.a, x.b, x.w, x.l, n, k))
			}
		}
	}
}

// What one has behind all wins and losses tells the growth.
func TestPromise11GrowthsAreWhatOneHas(t *testing.T) {
	for _, x := range allBets() {
		for _, n := range []int{1, 3, mostGrid} {
			scale := rat(pow(n*x.b, x.w)*pow(n, x.l), 1)
			for k := range n + 1 {
				growth, ok := impl.GrowthOf(x.a, x.b, x.w, x.l, n, k)
				want := new(big.Rat).Mul(x.behind(rat(k, n)), scale)
				if !ok || rat(growth, 1).Cmp(want) != 0 {
					t.Errorf("GrowthOf of %v, %d, %d = %d, %v; want %v", x, n, k, growth, ok, want)
				}
			}
		}
	}
}

func TestPromise11KnownGrowths(t *testing.T) {
	for _, x := range []struct{ a, b, w, l, n, k, want int }{
		{1, 1, 2, 1, 3, 1, 32}, {2, 1, 1, 1, 4, 1, 18}, {3, 2, 2, 0, 5, 5, 625}, {3, 2, 0, 2, 5, 2, 9}, {1, 2, 1, 0, 1, 1, 3}, {2, 1, 1, 0, 1, 1, 3},
		// A number to the power of 0 is 1, and so is 0.
		{1, 1, 1, 0, 1, 1, 2}, {1, 1, mostLuck, 0, mostGrid, mostGrid, 160000}, {1, 1, 0, 1, 1, 1, 0}, {1, 1, 1, 1, 7, 7, 0}, {9, 9, 0, 1, 1, 0, 1},
		{mostOdds, mostOdds, mostLuck, 0, mostGrid, mostGrid, 1049760000}, {mostOdds, mostOdds, mostLuck, mostLuck, mostGrid, 0, 656100000000}, {mostOdds, mostOdds, mostLuck, mostLuck, mostGrid, 1, 630247042161},
	} {
		checkCount(t, x.want)(impl.GrowthOf(x.a, x.b, x.w, x.l, x.n, x.k))
	}
}

func TestPromise11BestShares(t *testing.T) {
	ties := 0
	for _, x := range allBets() {
		for n := 1; n <= mostGrid; n++ {
			best := 0
			for k := range n + 1 {
				if x.growth(n, k) > x.growth(n, best) {
					best = k
				}
			}
			if best < n && x.growth(n, best) == x.growth(n, best+1) {
				ties++
			}
			checkCount(t, best)(impl.BestShare(x.a, x.b, x.w, x.l, n))
		}
	}
	if ties == 0 {
		t.Error("no bet has several best shares")
	}
}

func TestPromise11BestSharesAreNextToTheFairOnes(t *testing.T) {
	for _, x := range allBets() {
		fair, okFair := impl.FairShare(x.a, x.b, x.w, x.l)
		for n := 1; n <= mostGrid; n++ {
			best, ok := impl.BestShare(x.a, x.b, x.w, x.l, n)
			apart := best*fair[1] - n*fair[0]
			if !ok || !okFair || apart <= -fair[1] || apart >= fair[1] {
				t.Errorf("the best share of %v on a grid of %d is %d, the fair share %v", x, n, best, fair)
			}
		}
	}
}

func TestPromise11KnownBestShares(t *testing.T) {
	for _, x := range []struct{ a, b, w, l, n, want int }{
		{1, 1, 2, 1, 3, 1}, {1, 1, 1, 1, 5, 0}, {1, 1, 1, 2, 10, 0}, {2, 1, 1, 1, 4, 1}, {2, 1, 1, 1, 1, 0}, {9, 1, 4, 1, 1, 0}, {9, 1, 4, 1, 10, 8}, {9, 1, 4, 1, 9, 7},
		// Several shares are best.
		{2, 1, 1, 1, 2, 0}, {2, 1, 1, 1, 6, 1}, {2, 1, 1, 1, 10, 2}, {3, 1, 1, 1, 9, 3},
		// Nothing is ever lost, or won.
		{1, 9, 1, 0, 10, 10}, {1, 1, mostLuck, 0, 1, 1}, {9, 1, 0, 1, 10, 0}, {9, 9, 0, mostLuck, 1, 0},
	} {
		checkCount(t, x.want)(impl.BestShare(x.a, x.b, x.w, x.l, x.n))
	}
}

func TestPromise11FairShares(t *testing.T) {
	for _, x := range allBets() {
		got, ok := impl.FairShare(x.a, x.b, x.w, x.l)
		checkFraction(t, fmt.Sprint("FairShare of ", x), got, ok, x.fair())
		if !impl.IsFraction(got) {
			t.Errorf("FairShare of %v is %v, no fraction", x, got)
		}
	}
	for _, x := range []struct {
		a, b, w, l int
		want       [2]int
	}{
		{1, 1, 2, 1, [2]int{1, 3}}, {1, 1, 1, 1, [2]int{0, 1}}, {1, 2, 1, 1, [2]int{0, 1}}, {2, 1, 1, 1, [2]int{1, 4}}, {3, 7, 1, 0, [2]int{1, 1}}, {3, 7, 0, 1, [2]int{0, 1}}, {9, 1, 4, 1, [2]int{7, 9}}, {9, 9, 4, 3, [2]int{1, 7}}, {9, 8, 4, 4, [2]int{1, 18}}, {9, 7, 3, 4, [2]int{0, 1}},
	} {
		if got, ok := impl.FairShare(x.a, x.b, x.w, x.l); !ok || got != x.want {
			t.Errorf("FairShare of %v = %v, %v", x, got, ok)
		}
	}
}

// Without a grid, no part of all that one has makes more of it, and each other one makes less.
func TestPromise11NoPartsAreBetterThanFairShares(t *testing.T) {
	for _, x := range allBets() {
		got, _ := impl.FairShare(x.a, x.b, x.w, x.l)
		most := x.behind(exact(got))
		for _, n := range []int{7, 8} {
			for k := range n + 1 {
				part := rat(k, n)
				order := most.Cmp(x.behind(part))
				if order < 0 || order == 0 && part.Cmp(exact(got)) != 0 {
					t.Errorf("with %v, %v of all makes no less than the fair share %v", x, part, got)
				}
			}
		}
	}
}

func TestPromise11FairBets(t *testing.T) {
	for _, x := range allBets() {
		mean := rat(0, 1)
		for range x.w {
			mean.Add(mean, rat(x.a, x.b))
		}
		for range x.l {
			mean.Sub(mean, rat(1, 1))
		}
		checkCount(t, mean.Sign())(impl.IsFairBet(x.a, x.b, x.w, x.l))
		fair, ok := impl.FairShare(x.a, x.b, x.w, x.l)
		if !ok || fair[0] > 0 != (mean.Sign() == 1) {
			t.Errorf("the fair share of %v is %v, %v, and a stake brings %v", x, fair, ok, mean)
		}
	}
	checkCount(t, 1)(impl.IsFairBet(1, 1, 2, 1))
	checkCount(t, 0)(impl.IsFairBet(1, 2, 2, 1))
	checkCount(t, -1)(impl.IsFairBet(1, 2, 1, 1))
	checkCount(t, 1)(impl.IsFairBet(1, mostOdds, 1, 0))
	checkCount(t, -1)(impl.IsFairBet(mostOdds, 1, 0, 1))
}

func TestPromise11NoBets(t *testing.T) {
	for _, x := range badBets() {
		for _, n := range []int{1, 2, mostGrid} {
			for k := range n + 1 {
				checkNoCount(t)(impl.GrowthOf(x.a, x.b, x.w, x.l, n, k))
			}
			checkNoCount(t)(impl.BestShare(x.a, x.b, x.w, x.l, n))
		}
		if got, ok := impl.FairShare(x.a, x.b, x.w, x.l); ok || got != [2]int{} {
			t.Errorf("FairShare of %v = %v, %v", x, got, ok)
		}
		checkNoCount(t)(impl.IsFairBet(x.a, x.b, x.w, x.l))
	}
}

func TestPromise11NoGridsAndShares(t *testing.T) {
	for _, x := range allBets() {
		for _, n := range []int{0, -1, mostGrid + 1, math.MaxInt, math.MinInt} {
			for _, k := range []int{0, 1, -1, n, mostGrid} {
				checkNoCount(t)(impl.GrowthOf(x.a, x.b, x.w, x.l, n, k))
			}
			checkNoCount(t)(impl.BestShare(x.a, x.b, x.w, x.l, n))
		}
		for _, n := range []int{1, 4, mostGrid} {
			for _, k := range []int{-1, n + 1, -n, math.MaxInt, math.MinInt} {
				checkNoCount(t)(impl.GrowthOf(x.a, x.b, x.w, x.l, n, k))
			}
		}
	}
}
