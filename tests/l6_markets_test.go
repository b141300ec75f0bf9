package tests

import (
	"math"
	"slices"
	"testing"

	"loop.example/g01131/impl"
)

// starMarket is the Market of a root of price 5, and children of a less, the same and a greater
// price.
func starMarket() impl.Market {
	return marketOf([]int{-1, 0, 0, 0}, 5, 3, 5, 8)
}

func TestPromise6IsMarket(t *testing.T) {
	for _, m := range someMarkets() {
		if !impl.IsMarket(m) {
			t.Errorf("IsMarket(%v) is false", m)
		}
	}
	for i, m := range badMarkets() {
		if impl.IsMarket(m) {
			t.Errorf("IsMarket of the bad Market %d is true", i)
		}
	}
}

func TestPromise6Wealth(t *testing.T) {
	for _, m := range someMarkets() {
		for _, holdings := range someHoldings(m) {
			for _, start := range []int{0, 7, -mostPay, mostPay} {
				got, ok := impl.WealthOf(m, start, holdings)
				if !ok || len(got) != len(m.Prices) {
					t.Fatalf("WealthOf(%v, %d, %v) = %v, %v", m, start, holdings, got, ok)
				}
				for x, wealth := range got {
					if wealth != wealthAt(m, start, holdings, x) {
						t.Errorf("WealthOf(%v, %d, %v) = %v at %d", m, start, holdings, got, x)
					}
				}
			}
		}
	}
}

func TestPromise6WealthOfKnownMarkets(t *testing.T) {
	deep := marketOf([]int{-1, 0, 0, 1, 1}, 10, 8, 20, 0, 20)
	for _, x := range []struct {
		m        impl.Market
		start    int
		holdings []int
		want     []int
	}{
		{starMarket(), 1, []int{2, 0, 0, 0}, []int{1, -3, 1, 7}},
		{deep, 0, []int{1, -1, 0, 0, 0}, []int{0, -2, 10, 6, -14}},
		{deep, -mostPay, []int{-mostHold, mostHold, 0, 0, 0}, []int{-999, -801, -1989, -1593, 387}},
		{marketOf([]int{-1}, 4), mostPay, []int{0}, []int{mostPay}},
	} {
		checkList(t, x.want)(impl.WealthOf(x.m, x.start, x.holdings))
	}
}

// badHoldings returns lists that are no holdings: of other sizes, of numbers that are out of
// bounds, and with a number at an end.
func badHoldings(m impl.Market) [][]int {
	size := len(m.Prices)
	bad := [][]int{make([]int, size+1), make([]int, size-1), make([]int, 1<<16)}
	for x := range size {
		numbers := []int{mostHold + 1, -mostHold - 1, math.MaxInt, math.MinInt}
		if len(childrenOf(m.Tree, x)) == 0 {
			numbers = append(numbers, 1, -1, mostHold)
		}
		for _, n := range numbers {
			holdings := make([]int, size)
			holdings[x] = n
			bad = append(bad, holdings)
		}
	}
	return bad
}

// badStarts returns numbers that are no starts.
func badStarts() []int {
	return []int{mostPay + 1, -mostPay - 1, math.MaxInt, math.MinInt}
}

// checkNoWealth checks that both functions of holdings and claims fail.
func checkNoWealth(t *testing.T, m impl.Market, start int, holdings []int, claims []int) {
	t.Helper()
	if cover, ok := impl.DoCoverClaims(m, start, holdings, claims); cover || ok {
		t.Errorf("DoCoverClaims(%v, %d, %.9v, %.9v) = %v, %v", m, start, holdings, claims, cover, ok)
	}
	if match, ok := impl.DoMatchClaims(m, start, holdings, claims); match || ok {
		t.Errorf("DoMatchClaims(%v, %d, %.9v, %.9v) = %v, %v", m, start, holdings, claims, match, ok)
	}
}

func TestPromise6NoWealth(t *testing.T) {
	none := checkNoList(t)
	for _, m := range []impl.Market{marketOf([]int{-1}, 3), starMarket(), marketOf([]int{-1, 0, 0, 1, 1}, 10, 8, 20, 0, 20), flatMarket(limitTrees()[2], 0)} {
		holdings, claims := heldBy(m, 1), make([]int, len(leaves(m.Tree)))
		for _, bad := range badHoldings(m) {
			none(impl.WealthOf(m, 0, bad))
			checkNoWealth(t, m, 0, bad, claims)
		}
		for _, bad := range badStarts() {
			none(impl.WealthOf(m, bad, holdings))
			checkNoWealth(t, m, bad, holdings, claims)
		}
		for _, bad := range badNumbers(len(claims), mostClaim) {
			checkNoWealth(t, m, 0, holdings, bad)
		}
	}
	for _, m := range badMarkets() {
		for _, size := range []int{0, 1, 2, 3, mostNodes - 1} {
			for _, holdings := range [][]int{make([]int, len(m.Prices)), make([]int, len(m.Tree.Parents)), make([]int, size)} {
				none(impl.WealthOf(m, 0, holdings))
				checkNoWealth(t, m, 0, holdings, make([]int, size))
			}
		}
	}
}

// checkMeets compares both functions with the wealth at each end.
func checkMeets(t *testing.T, m impl.Market, start int, holdings []int, claims []int) {
	t.Helper()
	covers, matches := true, true
	for i, wealth := range wealthAtEnds(m, start, holdings) {
		covers = covers && wealth >= claims[i]
		matches = matches && wealth == claims[i]
	}
	if got, ok := impl.DoCoverClaims(m, start, holdings, claims); !ok || got != covers {
		t.Errorf("DoCoverClaims(%v, %d, %v, %v) = %v, %v", m, start, holdings, claims, got, ok)
	}
	if got, ok := impl.DoMatchClaims(m, start, holdings, claims); !ok || got != matches {
		t.Errorf("DoMatchClaims(%v, %d, %v, %v) = %v, %v", m, start, holdings, claims, got, ok)
	}
}

func TestPromise6ClaimsAreCoveredAndMatched(t *testing.T) {
	for _, m := range someMarkets() {
		for _, holdings := range someHoldings(m) {
			for _, start := range []int{0, 5, -mostPay, mostPay} {
				for _, claims := range someClaims(m) {
					checkMeets(t, m, start, holdings, claims)
				}
				claims := wealthAtEnds(m, start, holdings)
				for i := range claims {
					claims[i] = min(mostClaim, max(-mostClaim, claims[i]))
				}
				checkMeets(t, m, start, holdings, claims)
				for i := range claims {
					for _, more := range []int{-1, 1} {
						claims[i] += more
						if areFrom(claims, -mostClaim, mostClaim) {
							checkMeets(t, m, start, holdings, claims)
						}
						claims[i] -= more
					}
				}
			}
		}
	}
}

func TestPromise6KnownClaimsAreCoveredAndMatched(t *testing.T) {
	m := starMarket()
	for _, x := range []struct {
		start          int
		claims         []int
		covers, isSame bool
	}{
		{2, []int{0, 0, 3}, true, false}, {2, []int{0, 2, 5}, true, true}, {1, []int{0, 2, 5}, false, false},
		{3, []int{0, 2, 5}, true, false}, {2, []int{0, 2, 6}, false, false}, {2, []int{1, 2, 5}, false, false}, {2, []int{0, 3, 5}, false, false},
	} {
		covers, ok := impl.DoCoverClaims(m, x.start, []int{1, 0, 0, 0}, x.claims)
		isSame, again := impl.DoMatchClaims(m, x.start, []int{1, 0, 0, 0}, x.claims)
		if !ok || !again || covers != x.covers || isSame != x.isSame {
			t.Errorf("with %d, %v is covered: %v, %v, and matched: %v, %v", x.start, x.claims, covers, ok, isSame, again)
		}
	}
	single := marketOf([]int{-1}, 0)
	for _, claim := range []int{mostClaim, -mostClaim} {
		checkMeets(t, single, claim, []int{0}, []int{claim})
		checkMeets(t, single, claim-1, []int{0}, []int{claim})
		checkMeets(t, single, claim+1, []int{0}, []int{claim})
	}
}

func TestPromise6UnevenNodes(t *testing.T) {
	for _, m := range someMarkets() {
		nodes := unevenNodes(m)
		x, ok := impl.UnevenNode(m)
		if ok != (len(nodes) > 0) || ok && x != nodes[0] || !ok && x != 0 {
			t.Errorf("UnevenNode(%v) = %d, %v", m, x, ok)
		}
	}
	for i, m := range badMarkets() {
		if x, ok := impl.UnevenNode(m); ok || x != 0 {
			t.Errorf("UnevenNode of the bad Market %d = %d, %v", i, x, ok)
		}
	}
}

func TestPromise6KnownUnevenNodes(t *testing.T) {
	for _, x := range []struct {
		m     impl.Market
		node  int
		gains []int
	}{
		{marketOf([]int{-1, 0}, 5, 6), 0, []int{1, 0}},
		{marketOf([]int{-1, 0}, 5, 4), 0, []int{-1, 0}},
		{marketOf([]int{-1, 0, 0, 0}, 5, 5, 6, 7), 0, []int{1, 0, 0, 0}},
		{marketOf([]int{-1, 0, 0, 0}, 5, 5, 4, 5), 0, []int{-1, 0, 0, 0}},
		{marketOf([]int{-1, 0, 0, 1, 2, 2}, 5, 3, 8, 3, 8, 7), 2, []int{0, 0, -1, 0, 0, 0}},
		{marketOf([]int{-1, 0, 0, 1, 2, 2}, 5, 3, 8, 4, 8, 7), 1, []int{0, 1, 0, 0, 0, 0}},
		{marketOf([]int{-1, 0, 1}, 0, 0, mostPrice), 1, []int{0, 1, 0}},
	} {
		checkList(t, x.gains)(impl.FreeGain(x.m))
		if node, ok := impl.UnevenNode(x.m); !ok || node != x.node {
			t.Errorf("UnevenNode(%v) = %d, %v", x.m, node, ok)
		}
	}
}

// isGain reports whether no number is less than 0, and some is greater.
func isGain(numbers []int) bool {
	return slices.Min(numbers) == 0 && slices.Max(numbers) > 0 || slices.Min(numbers) > 0
}

func TestPromise6FreeGains(t *testing.T) {
	gains := 0
	for _, m := range someMarkets() {
		nodes := unevenNodes(m)
		holdings, ok := impl.FreeGain(m)
		if len(nodes) == 0 {
			if ok || len(holdings) > 0 {
				t.Errorf("FreeGain(%v) = %v, %v", m, holdings, ok)
			}
			continue
		}
		gains++
		want := make([]int, len(m.Prices))
		want[nodes[0]] = 1
		for _, child := range childrenOf(m.Tree, nodes[0]) {
			if m.Prices[child] < m.Prices[nodes[0]] {
				want[nodes[0]] = -1
			}
		}
		wealth, okWealth := impl.WealthOf(m, 0, holdings)
		if !ok || !okWealth || !slices.Equal(holdings, want) {
			t.Fatalf("FreeGain(%v) = %v, %v", m, holdings, ok)
		}
		if atEnds := wealthAtEnds(m, 0, holdings); !isGain(atEnds) || !isGain(wealth) {
			t.Errorf("FreeGain(%v) = %v, which gains %v", m, holdings, atEnds)
		}
	}
	if gains < 100 {
		t.Errorf("only %d Markets are not sound", gains)
	}
	for _, m := range badMarkets() {
		checkNoList(t)(impl.FreeGain(m))
	}
}

// A Market is sound just if no holdings at one node alone are a gain without risk.
func TestPromise6SoundMarketsHaveNoFreeGains(t *testing.T) {
	for _, m := range smallMarkets(5, 3, 4, 6) {
		hasGain := false
		for x := range m.Prices {
			for _, n := range []int{-1, 1} {
				holdings := make([]int, len(m.Prices))
				holdings[x] = n
				hasGain = hasGain || len(childrenOf(m.Tree, x)) > 0 && isGain(wealthAtEnds(m, 0, holdings))
			}
		}
		if _, ok := impl.UnevenNode(m); ok != hasGain {
			t.Errorf("UnevenNode(%v) is found: %v, but there is a gain: %v", m, ok, hasGain)
		}
	}
}

func TestPromise6FairWeights(t *testing.T) {
	fair := 0
	for _, m := range smallMarkets(4, 3, 4, 6) {
		tuples([]int{1, 2, 3, 4}, len(leaves(m.Tree)), func(weights []int) {
			want := areFair(m, weights)
			if got, ok := impl.AreFairWeights(m, weights); !ok || got != want {
				t.Errorf("AreFairWeights(%v, %v) = %v, %v", m, weights, got, ok)
			}
			if want {
				fair++
			}
			if want && len(unevenNodes(m)) > 0 {
				t.Errorf("%v are fair for %v, which is not sound", weights, m)
			}
		})
	}
	if fair < 100 {
		t.Errorf("only %d weights are fair", fair)
	}
	for _, m := range someMarkets() {
		rolls := &dice{uint64(m.Prices[0])}
		for range 3 {
			var weights []int
			for range leaves(m.Tree) {
				weights = append(weights, rolls.between(1, mostWeight))
			}
			if got, ok := impl.AreFairWeights(m, weights); !ok || got != areFair(m, weights) {
				t.Errorf("AreFairWeights(%v, %v) = %v, %v", m, weights, got, ok)
			}
		}
	}
}

func TestPromise6KnownFairWeights(t *testing.T) {
	deep := marketOf([]int{-1, 0, 0, 1, 1}, 10, 8, 20, 0, 20)
	for _, x := range []struct {
		m       impl.Market
		weights []int
		want    bool
	}{
		{starMarket(), []int{3, 1, 2}, true}, {starMarket(), []int{3, 20, 2}, true}, {starMarket(), []int{3, 1, 3}, false}, {starMarket(), []int{6, 1, 4}, true},
		{deep, []int{1, 3, 2}, true}, {deep, []int{4, 12, 8}, true}, {deep, []int{5, 15, 10}, true}, {deep, []int{5, 15, 11}, false}, {deep, []int{1, 2, 3}, false}, {deep, []int{1, 1, 1}, false},
		{marketOf([]int{-1}, 0), []int{1}, true}, {marketOf([]int{-1}, mostPrice), []int{mostWeight}, true},
		{marketOf([]int{-1, 0, 0}, 19, mostPrice, 0), []int{19, 1}, true}, {marketOf([]int{-1, 0, 0}, 1, mostPrice, 0), []int{1, 19}, true},
		{flatMarket(limitTrees()[4], 0), slices.Repeat([]int{mostWeight}, mostNodes-1), true}, {flatMarket(limitTrees()[4], mostPrice), slices.Repeat([]int{mostWeight}, mostNodes-1), true},
	} {
		if got, ok := impl.AreFairWeights(x.m, x.weights); !ok || got != x.want {
			t.Errorf("AreFairWeights(%v, %v) = %v, %v", x.m, x.weights, got, ok)
		}
	}
}

func TestPromise6OtherWeightsFail(t *testing.T) {
	for _, m := range []impl.Market{marketOf([]int{-1}, 3), starMarket(), marketOf([]int{-1, 0, 0, 1, 1}, 10, 8, 20, 0, 20), flatMarket(limitTrees()[4], 0)} {
		size := len(leaves(m.Tree))
		for _, n := range []int{0, -1, mostWeight + 1, math.MaxInt, math.MinInt} {
			for i := range size {
				weights := slices.Repeat([]int{1}, size)
				weights[i] = n
				checkNoWeights(t, m, weights)
			}
		}
		for _, bad := range []int{size - 1, size + 1, len(m.Prices) + 1, 1 << 16} {
			checkNoWeights(t, m, slices.Repeat([]int{1}, bad))
		}
	}
	for _, m := range badMarkets() {
		for size := range 4 {
			checkNoWeights(t, m, slices.Repeat([]int{1}, size))
		}
		checkNoWeights(t, m, slices.Repeat([]int{1}, mostNodes-1))
	}
}

func checkNoWeights(t *testing.T, m impl.Market, weights []int) {
	t.Helper()
	if got, ok := impl.AreFairWeights(m, weights); got || ok {
		t.Errorf("AreFairWeights(%v, %.9v) = %v, %v", m, weights, got, ok)
	}
}

// isFullAt reports whether a node has as few children as the document says.
func isFullAt(m impl.Market, x int) bool {
	less, same, greater := 0, 0, 0
	for _, child := range childrenOf(m.Tree, x) {
		switch {
		case m.Prices[child] < m.Prices[x]:
			less++
		case m.Prices[child] > m.Prices[x]:
			greater++
		default:
			same++
		}
	}
	return less <= 1 && greater <= 1 && (same == 0 || less+same+greater == 1)
}

func TestPromise6FullMarkets(t *testing.T) {
	full := 0
	for _, m := range append(smallMarkets(5, 3, 4, 6), someMarkets()...) {
		want := true
		for x := range m.Prices {
			want = want && isFullAt(m, x)
		}
		isSound := len(unevenNodes(m)) == 0
		if got, ok := impl.IsFull(m); ok != isSound || got != (isSound && want) {
			t.Errorf("IsFull(%v) = %v, %v", m, got, ok)
		}
		if isSound && want {
			full++
		}
	}
	if full < 50 {
		t.Errorf("only %d Markets are full", full)
	}
	for i, m := range badMarkets() {
		if got, ok := impl.IsFull(m); got || ok {
			t.Errorf("IsFull of the bad Market %d = %v, %v", i, got, ok)
		}
	}
}

func TestPromise6KnownFullMarkets(t *testing.T) {
	for _, x := range []struct {
		m    impl.Market
		want bool
	}{
		{marketOf([]int{-1}, 0), true}, {marketOf([]int{-1, 0}, 3, 3), true}, {marketOf([]int{-1, 0, 0}, 3, 2, 4), true},
		{marketOf([]int{-1, 0, 0}, 3, 3, 3), false}, {starMarket(), false},
		{marketOf([]int{-1, 0, 0, 0}, 3, 2, 4, 5), false}, {marketOf([]int{-1, 0, 0, 0}, 3, 2, 1, 5), false},
		{marketOf([]int{-1, 0, 0, 1, 2, 2}, 3, 2, 4, 2, 5, 1), true}, {marketOf([]int{-1, 0, 0, 1, 2, 2}, 3, 2, 4, 2, 4, 4), false},
	} {
		if got, ok := impl.IsFull(x.m); !ok || got != x.want {
			t.Errorf("IsFull(%v) = %v, %v", x.m, got, ok)
		}
	}
}
