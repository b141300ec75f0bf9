package tests

import (
	"math"
	"math/big"
	"slices"
	"testing"

	"loop.example/g01131/impl"
)

// priceMaker is one of the functions that return prices of claims; its prices are the greatest
// of some numbers if its sign is 1, and the least of them if it is -1.
type priceMaker struct {
	name string
	call func(m impl.Market, claims []int) ([][2]int, bool)
	sign int
}

func priceMakers() []priceMaker {
	return []priceMaker{{"UpperPrices", impl.UpperPrices, 1}, {"LowerPrices", impl.LowerPrices, -1}}
}

// checkPrices compares the prices of claims with exact numbers, and reports whether there are
// prices.
func (p priceMaker) checkPrices(t *testing.T, m impl.Market, claims []int) bool {
	t.Helper()
	want, areFractions := exactPrices(m, claims, p.sign)
	got, ok := p.call(m, claims)
	if ok != areFractions || !ok && len(got) > 0 || ok && len(got) != len(want) {
		t.Fatalf("%s(%v, %v) = %v, %v", p.name, m, claims, got, ok)
	}
	for x, f := range got {
		if !isFraction(f, want[x]) {
			t.Errorf("%s(%v, %v) = %v; it is %v at %d", p.name, m, claims, got, want[x], x)
		}
	}
	return ok
}

func TestPromise6Prices(t *testing.T) {
	for _, m := range append(soundMarkets(), starMarket()) {
		for _, claims := range someClaims(m) {
			for _, maker := range priceMakers() {
				maker.checkPrices(t, m, claims)
			}
		}
	}
}

func TestPromise6PricesOfKnownClaims(t *testing.T) {
	deep := marketOf([]int{-1, 0, 0, 1, 1}, 10, 8, 20, 0, 20)
	wide := marketOf([]int{-1, 0, 0, 0, 0}, 5, 3, 4, 6, 9)
	for _, x := range []struct {
		m            impl.Market
		claims       []int
		upper, lower [2]int
	}{
		{starMarket(), []int{0, 0, 3}, [2]int{6, 5}, [2]int{0, 1}},
		{starMarket(), []int{-5, 4, 0}, [2]int{4, 1}, [2]int{-3, 1}},
		{starMarket(), []int{5, -4, 0}, [2]int{3, 1}, [2]int{-4, 1}},
		{deep, []int{9, -1, 4}, [2]int{7, 3}, [2]int{7, 3}},
		{wide, []int{1, 0, 0, 0}, [2]int{2, 3}, [2]int{0, 1}},
		{wide, []int{1, 2, 3, 0}, [2]int{5, 2}, [2]int{2, 3}},
		{marketOf([]int{-1}, 0), []int{-mostClaim}, [2]int{-mostClaim, 1}, [2]int{-mostClaim, 1}},
		{marketOf([]int{-1}, mostPrice), []int{mostClaim}, [2]int{mostClaim, 1}, [2]int{mostClaim, 1}},
		{marketOf([]int{-1, 0, 0}, 0, 0, 0), []int{2, -7}, [2]int{2, 1}, [2]int{-7, 1}},
		{marketOf([]int{-1, 0, 0, 0}, mostPrice, mostPrice, mostPrice, mostPrice), []int{-4, -9, -6}, [2]int{-4, 1}, [2]int{-9, 1}},
		{marketOf([]int{-1, 0, 0}, 1, mostPrice, 0), []int{mostClaim, -mostClaim}, [2]int{-891, 10}, [2]int{-891, 10}},
	} {
		upper, okUpper := impl.UpperPrices(x.m, x.claims)
		lower, okLower := impl.LowerPrices(x.m, x.claims)
		if !okUpper || !okLower || upper[0] != x.upper || lower[0] != x.lower {
			t.Errorf("prices of %v in %v: %v, %v and %v, %v", x.claims, x.m, upper, okUpper, lower, okLower)
		}
	}
}

// ladderMarket returns a Market of a number of levels. Each of them has two nodes whose prices
// differ by 10: an end, and the next level or the last end, whose upper price has 7 of 10 parts
// in that of the level.
func ladderMarket(levels int) impl.Market {
	parents, prices, top := []int{-1}, []int{10}, 0
	for range levels {
		parents = append(parents, top, top)
		if prices[top] == 10 {
			prices = append(prices, 3, 13)
		} else {
			prices = append(prices, 20, 10)
		}
		top = len(parents) - 1
	}
	return marketOf(parents, prices...)
}

// lastClaim returns claims of 0, but for the last one.
func lastClaim(m impl.Market, claim int) []int {
	claims := make([]int, len(leaves(m.Tree)))
	claims[len(claims)-1] = claim
	return claims
}

func TestPromise6PricesThatAreNoFractions(t *testing.T) {
	for _, maker := range priceMakers() {
		for levels := range 12 {
			m := ladderMarket(levels)
			// The denominator at the root is 10 to the power of the levels, divided by that to
			// the power of the zeros of the claim.
			for claim, most := range map[int]int{1: 6, -1: 6, 10: 7, -30: 7, 99: 6, 0: 11} {
				if got := maker.checkPrices(t, m, lastClaim(m, claim)); got != (levels <= most) {
					t.Errorf("%s of %d behind %d levels are found: %v", maker.name, claim, levels, got)
				}
			}
		}
	}
}

// besideLadder returns a Market whose root has a child with its price and one with a less price,
// which are ends, and a ladder.
func besideLadder(levels int) impl.Market {
	ladder := ladderMarket(levels)
	parents, prices := []int{-1, 0, 0, 0}, append([]int{7, 7, 4}, ladder.Prices...)
	for _, parent := range ladder.Tree.Parents[1:] {
		parents = append(parents, parent+3)
	}
	return marketOf(parents, prices...)
}

// A number that is no fraction makes it fail, even if another one is greater or less.
func TestPromise6AllNumbersMustBeFractions(t *testing.T) {
	for _, maker := range priceMakers() {
		for levels := 1; levels <= 8; levels++ {
			m := besideLadder(levels)
			for _, quiet := range []int{mostClaim, 0, -mostClaim} {
				claims := lastClaim(m, 1)
				claims[0] = quiet
				// The ladder has the half of the number of both sides.
				if got := maker.checkPrices(t, m, claims); got != (levels <= 5) {
					t.Errorf("%s beside %d and %d levels are found: %v", maker.name, quiet, levels, got)
				}
			}
		}
	}
}

func TestPromise6NoPrices(t *testing.T) {
	for _, maker := range priceMakers() {
		checkNone := func(m impl.Market, claims []int) {
			t.Helper()
			if got, ok := maker.call(m, claims); ok || len(got) > 0 {
				t.Errorf("%s(%v, %.9v) = %v, %v", maker.name, m, claims, got, ok)
			}
		}
		for _, m := range []impl.Market{marketOf([]int{-1}, 3), starMarket(), ladderMarket(3), flatMarket(limitTrees()[4], 0)} {
			for _, bad := range badNumbers(len(leaves(m.Tree)), mostClaim) {
				checkNone(m, bad)
			}
			checkNone(m, make([]int, len(m.Prices)+1))
		}
		for _, m := range someMarkets() {
			if len(unevenNodes(m)) > 0 {
				checkNone(m, make([]int, len(leaves(m.Tree))))
			}
		}
		for _, m := range badMarkets() {
			for _, size := range []int{0, 1, 2, 3, mostNodes - 1, mostNodes, len(m.Prices)} {
				checkNone(m, make([]int, size))
			}
		}
	}
}

// At each node there is a number of shares with which the upper price is enough for those of all
// children, and no less price is: the shares that one child needs are all that another one bears.
func TestPromise6UpperPricesAreJustEnough(t *testing.T) {
	for _, m := range soundMarkets() {
		for _, claims := range someClaims(m) {
			prices, ok := impl.UpperPrices(m, claims)
			for x := range prices {
				if ok && len(childrenOf(m.Tree, x)) > 0 {
					checkJustEnough(t, m, prices, x)
				}
			}
		}
	}
}

func checkJustEnough(t *testing.T, m impl.Market, prices [][2]int, x int) {
	t.Helper()
	var least, most *big.Rat
	isTight := false
	for _, child := range childrenOf(m.Tree, x) {
		missing := new(big.Rat).Sub(exact(prices[child]), exact(prices[x]))
		step := m.Prices[child] - m.Prices[x]
		if step == 0 {
			if missing.Sign() > 0 {
				t.Errorf("at %d of %v %v is less than at %d", x, m, prices, child)
			}
			isTight = isTight || missing.Sign() == 0
			continue
		}
		shares := missing.Mul(missing, rat(1, step))
		if step > 0 && (least == nil || shares.Cmp(least) > 0) {
			least = shares
		}
		if step < 0 && (most == nil || shares.Cmp(most) < 0) {
			most = shares
		}
	}
	if least != nil && most != nil {
		if least.Cmp(most) > 0 {
			t.Errorf("at %d of %v %v is not enough", x, m, prices)
		}
		isTight = isTight || least.Cmp(most) == 0
	}
	if !isTight {
		t.Errorf("at %d of %v %v is more than enough", x, m, prices)
	}
}

// coverable returns small sound Markets, with one and with two nodes with children.
func coverable() []impl.Market {
	return []impl.Market{
		marketOf([]int{-1}, 3), marketOf([]int{-1, 0}, 3, 3), marketOf([]int{-1, 0, 0}, 3, 2, 4), marketOf([]int{-1, 0, 0}, 3, 1, 4), starMarket(),
		marketOf([]int{-1, 0, 0}, 0, 0, 0), marketOf([]int{-1, 0, 0}, 19, mostPrice, 18), marketOf([]int{-1, 0, 0, 0}, 3, 2, 4, 5), marketOf([]int{-1, 0, 0, 0}, 3, 1, 2, 4),
		marketOf([]int{-1, 0, 0, 1, 1}, 3, 2, 4, 1, 3), marketOf([]int{-1, 0, 0, 2, 2}, 3, 2, 4, 4, 4), marketOf([]int{-1, 0, 0, 1, 1, 1}, 3, 2, 4, 1, 2, 4),
	}
}

// No start that covers claims with some holdings is less than their upper price.
func TestPromise6NoStartThatCoversIsLess(t *testing.T) {
	just := 0
	for _, m := range coverable() {
		tuples([]int{-2, 0, 3}, len(leaves(m.Tree)), func(claims []int) {
			prices, ok := impl.UpperPrices(m, claims)
			if !ok {
				t.Fatalf("UpperPrices(%v, %v) fails", m, claims)
			}
			for start := -3; start <= 3; start++ {
				tuples([]int{-3, -2, -1, 0, 1, 2, 3}, min(2, len(m.Prices)-len(claims)), func(held []int) {
					holdings := heldBy(m, append(slices.Clone(held), 0)...)
					covers, ok := impl.DoCoverClaims(m, start, holdings, claims)
					order := rat(start, 1).Cmp(exact(prices[0]))
					if !ok || covers && order < 0 {
						t.Errorf("%d and %v cover %v in %v, but the upper prices are %v", start, holdings, claims, m, prices)
					}
					if covers && order == 0 {
						just++
					}
				})
			}
		})
	}
	if just < 100 {
		t.Errorf("only %d starts are the upper price", just)
	}
}

// With fair weights the means of claims are between both prices.
func TestPromise6MeansOfFairWeights(t *testing.T) {
	means := 0
	for _, m := range append(coverable(), smallMarkets(4, 3, 4, 6)...) {
		tuples([]int{1, 2, 3}, len(leaves(m.Tree)), func(weights []int) {
			if fair, ok := impl.AreFairWeights(m, weights); !ok || !fair {
				return
			}
			for _, claims := range someClaims(m) {
				upper, okUpper := impl.UpperPrices(m, claims)
				lower, okLower := impl.LowerPrices(m, claims)
				mean, ok := impl.MeansOf(weightsOf(m, weights), claims)
				if !ok || !okUpper || !okLower || exact(mean[0]).Cmp(exact(lower[0])) < 0 || exact(mean[0]).Cmp(exact(upper[0])) > 0 {
					t.Errorf("claims %v of %v have the means %v with %v, and the prices %v and %v", claims, m, mean, weights, lower, upper)
				}
				means++
			}
		})
	}
	if means < 100 {
		t.Errorf("only %d means", means)
	}
}

func TestPromise6PricesOfFullMarketsAreTheSame(t *testing.T) {
	full := 0
	for _, m := range append(soundMarkets(), ladderMarket(5), ladderMarket(11)) {
		isFull, ok := impl.IsFull(m)
		for _, claims := range someClaims(m) {
			upper, okUpper := impl.UpperPrices(m, claims)
			lower, okLower := impl.LowerPrices(m, claims)
			if !ok || isFull && (okUpper != okLower || !slices.Equal(upper, lower)) {
				t.Errorf("prices of %v in %v: %v and %v", claims, m, upper, lower)
			}
		}
		if isFull {
			full++
		}
	}
	if full < 50 {
		t.Errorf("only %d Markets are full", full)
	}
}

func TestPromise6SharesCallsAndPuts(t *testing.T) {
	for _, m := range someMarkets() {
		var shares []int
		for _, end := range leaves(m.Tree) {
			shares = append(shares, m.Prices[end])
		}
		checkList(t, shares)(impl.ShareClaims(m))
		for strike := range mostPrice + 1 {
			var calls, puts []int
			for _, price := range shares {
				calls = append(calls, max(0, price-strike))
				puts = append(puts, max(0, strike-price))
			}
			checkList(t, calls)(impl.CallClaims(m, strike))
			checkList(t, puts)(impl.PutClaims(m, strike))
		}
		for _, strike := range []int{-1, mostPrice + 1, math.MaxInt, math.MinInt} {
			checkNoList(t)(impl.CallClaims(m, strike))
			checkNoList(t)(impl.PutClaims(m, strike))
		}
	}
	for _, m := range badMarkets() {
		checkNoList(t)(impl.ShareClaims(m))
		for _, strike := range []int{0, 5, mostPrice} {
			checkNoList(t)(impl.CallClaims(m, strike))
			checkNoList(t)(impl.PutClaims(m, strike))
		}
	}
}

func TestPromise6KnownCallsAndPuts(t *testing.T) {
	m := marketOf([]int{-1, 0, 0, 0}, 5, 0, 5, mostPrice)
	for _, x := range []struct {
		strike      int
		calls, puts []int
	}{
		{0, []int{0, 5, 20}, []int{0, 0, 0}}, {5, []int{0, 0, 15}, []int{5, 0, 0}}, {6, []int{0, 0, 14}, []int{6, 1, 0}}, {mostPrice, []int{0, 0, 0}, []int{20, 15, 0}},
	} {
		checkList(t, x.calls)(impl.CallClaims(m, x.strike))
		checkList(t, x.puts)(impl.PutClaims(m, x.strike))
	}
}

// In a sound Market the upper and the lower prices of the shares are the prices.
func TestPromise6PricesOfSharesAreThePrices(t *testing.T) {
	for _, m := range append(soundMarkets(), ladderMarket(11), besideLadder(8)) {
		shares, _ := impl.ShareClaims(m)
		for _, maker := range priceMakers() {
			prices, ok := maker.call(m, shares)
			if !ok || len(prices) != len(m.Prices) {
				t.Fatalf("%s(%v, %v) = %v, %v", maker.name, m, shares, prices, ok)
			}
			for x, price := range m.Prices {
				if prices[x] != [2]int{price, 1} {
					t.Errorf("%s(%v, %v) = %v at %d", maker.name, m, shares, prices, x)
				}
			}
		}
	}
}

func TestPromise6CallsLessPuts(t *testing.T) {
	for _, m := range soundMarkets() {
		for _, strike := range []int{0, 5, 9, 10, mostPrice} {
			calls, _ := impl.CallClaims(m, strike)
			puts, _ := impl.PutClaims(m, strike)
			upperCalls, okFirst := impl.UpperPrices(m, calls)
			lowerCalls, okSecond := impl.LowerPrices(m, calls)
			upperPuts, okThird := impl.UpperPrices(m, puts)
			lowerPuts, okFourth := impl.LowerPrices(m, puts)
			if !okFirst || !okSecond || !okThird || !okFourth {
				continue
			}
			least := new(big.Rat).Sub(exact(lowerCalls[0]), exact(upperPuts[0]))
			most := new(big.Rat).Sub(exact(upperCalls[0]), exact(lowerPuts[0]))
			price := rat(m.Prices[0]-strike, 1)
			if least.Cmp(price) > 0 || price.Cmp(most) > 0 {
				t.Errorf("calls less puts of %d in %v are from %v to %v", strike, m, least, most)
			}
		}
	}
}
