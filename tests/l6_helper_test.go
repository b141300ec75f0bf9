package tests

import (
	"math"
	"math/big"
	"slices"
	"testing"

	"loop.example/g01131/impl"
)

// The limits are written out so that a changed constant is noticed.
const (
	mostPrice = 20
	mostClaim = 99
	mostHold  = 99
	mostRows  = 4
	mostMove  = 9
)

// marketOf returns the Market of these parents and prices.
func marketOf(parents []int, prices ...int) impl.Market {
	return impl.Market{Tree: treeOf(parents, 1), Prices: prices}
}

// flatMarket returns the Market of a tree in which all prices are the same.
func flatMarket(tree impl.Tree, price int) impl.Market {
	return impl.Market{Tree: tree, Prices: slices.Repeat([]int{price}, len(tree.Parents))}
}

// soundMarket returns a Market that begins with a price, in which each node with children is
// quiet, or has a child with a less price and one with a greater price.
func soundMarket(rolls *dice, tree impl.Tree, first int) impl.Market {
	m := flatMarket(tree, first)
	for x := range tree.Parents {
		children, price := childrenOf(tree, x), m.Prices[x]
		isQuiet := len(children) < 2 || price == 0 || price == mostPrice || rolls.below(5) == 0
		for _, child := range children {
			m.Prices[child] = price
			if !isQuiet {
				m.Prices[child] = rolls.between(max(0, price-2), min(mostPrice, price+2))
			}
		}
		if !isQuiet {
			low := rolls.below(len(children))
			high := (low + rolls.between(1, len(children)-1)) % len(children)
			m.Prices[children[low]] = rolls.below(price)
			m.Prices[children[high]] = rolls.between(price+1, mostPrice)
		}
	}
	return m
}

// anyMarket returns a Market of rolled prices, which is most often not sound.
func anyMarket(rolls *dice, tree impl.Tree, low int, high int) impl.Market {
	m := flatMarket(tree, 0)
	for x := range m.Prices {
		m.Prices[x] = rolls.between(low, high)
	}
	return m
}

// smallMarkets returns all Markets of at most most nodes with some prices.
func smallMarkets(most int, prices ...int) []impl.Market {
	var markets []impl.Market
	for size := 1; size <= most; size++ {
		for _, parents := range shapes(size) {
			tuples(prices, size, func(list []int) {
				markets = append(markets, marketOf(parents, slices.Clone(list)...))
			})
		}
	}
	return markets
}

// someMarkets returns small Markets, and Markets of Trees of all sizes, sound and not.
func someMarkets() []impl.Market {
	rolls := &dice{6}
	markets := smallMarkets(4, 0, 3, mostPrice)
	for _, tree := range someTrees() {
		markets = append(markets, flatMarket(tree, 0), flatMarket(tree, mostPrice), flatMarket(tree, 7))
		for range 4 {
			markets = append(markets, soundMarket(rolls, tree, rolls.between(1, mostPrice-1)))
		}
		markets = append(markets, anyMarket(rolls, tree, 0, mostPrice), anyMarket(rolls, tree, 9, 11))
	}
	return markets
}

// soundMarkets returns those of someMarkets that are sound.
func soundMarkets() []impl.Market {
	return slices.DeleteFunc(someMarkets(), func(m impl.Market) bool { return len(unevenNodes(m)) > 0 })
}

// badMarkets returns Markets that are not valid, by their Tree or by their prices.
func badMarkets() []impl.Market {
	var markets []impl.Market
	for _, tree := range badTrees() {
		markets = append(markets, flatMarket(tree, 1))
	}
	for _, m := range []impl.Market{marketOf([]int{-1}, 3), marketOf([]int{-1, 0, 0}, 5, 4, 8), flatMarket(limitTrees()[4], mostPrice)} {
		for _, prices := range [][]int{nil, {}, m.Prices[1:], append(slices.Clone(m.Prices), 1), make([]int, 1<<20)} {
			markets = append(markets, impl.Market{Tree: m.Tree, Prices: prices})
		}
		for x := range m.Prices {
			for _, price := range []int{-1, mostPrice + 1, math.MaxInt, math.MinInt} {
				prices := slices.Clone(m.Prices)
				prices[x] = price
				markets = append(markets, impl.Market{Tree: m.Tree, Prices: prices})
			}
		}
	}
	return append(markets, impl.Market{Prices: []int{1}})
}

// isUneven reports whether a node has children of another price, but none that has a less price,
// or none that has a greater one.
func isUneven(m impl.Market, x int) bool {
	hasLess, hasGreater := false, false
	for _, child := range childrenOf(m.Tree, x) {
		hasLess = hasLess || m.Prices[child] < m.Prices[x]
		hasGreater = hasGreater || m.Prices[child] > m.Prices[x]
	}
	return hasLess != hasGreater
}

func unevenNodes(m impl.Market) []int {
	var nodes []int
	for x := range m.Prices {
		if isUneven(m, x) {
			nodes = append(nodes, x)
		}
	}
	return nodes
}

// heldBy returns holdings that have these numbers at nodes with children, over and over.
func heldBy(m impl.Market, numbers ...int) []int {
	holdings := make([]int, len(m.Prices))
	for x := range holdings {
		if len(childrenOf(m.Tree, x)) > 0 {
			holdings[x] = numbers[x%len(numbers)]
		}
	}
	return holdings
}

// someHoldings returns holdings of a Market, those at the limits among them.
func someHoldings(m impl.Market) [][]int {
	rolls := &dice{uint64(len(m.Prices))}
	return [][]int{
		heldBy(m, 0), heldBy(m, 1), heldBy(m, -1, 2), heldBy(m, mostHold), heldBy(m, -mostHold), heldBy(m, mostHold, -mostHold),
		heldBy(m, rolls.between(-3, 3), rolls.between(-3, 3), rolls.between(-mostHold, mostHold)),
	}
}

// wealthAt adds up the gains on the way to a node.
func wealthAt(m impl.Market, start int, holdings []int, x int) int {
	way := wayTo(m.Tree, x)
	for i, y := range way[1:] {
		start += holdings[way[i]] * (m.Prices[y] - m.Prices[way[i]])
	}
	return start
}

// wealthAtEnds returns the wealth at each end.
func wealthAtEnds(m impl.Market, start int, holdings []int) []int {
	var wealth []int
	for _, end := range leaves(m.Tree) {
		wealth = append(wealth, wealthAt(m, start, holdings, end))
	}
	return wealth
}

// someClaims returns claims of a Market, those at the limits among them.
func someClaims(m impl.Market) [][]int {
	rolls := &dice{uint64(len(m.Prices) + 3)}
	lists := make([][]int, 6)
	for i := range leaves(m.Tree) {
		for k, claim := range []int{
			mostClaim, -mostClaim, i % 2, mostClaim * (1 - i%3%2*2), rolls.between(-mostClaim, mostClaim), rolls.between(-2, 2),
		} {
			lists[k] = append(lists[k], claim)
		}
	}
	return lists
}

// offersAt returns the numbers among which the price of claims at a node with children is chosen,
// if its children have theirs.
func offersAt(m impl.Market, prices []*big.Rat, x int) []*big.Rat {
	var offers []*big.Rat
	children, p := childrenOf(m.Tree, x), m.Prices[x]
	for _, low := range children {
		if m.Prices[low] == p {
			offers = append(offers, prices[low])
		}
		for _, high := range children {
			if a, b := m.Prices[low], m.Prices[high]; a < p && p < b {
				sum := new(big.Rat).Mul(prices[low], rat(b-p, b-a))
				offers = append(offers, sum.Add(sum, new(big.Rat).Mul(prices[high], rat(p-a, b-a))))
			}
		}
	}
	return offers
}

// exactPrices returns the upper prices of claims at all nodes of a sound Market, or the lower
// ones for a sign of -1, and whether all numbers among which they are chosen are fractions.
func exactPrices(m impl.Market, claims []int, sign int) ([]*big.Rat, bool) {
	prices := make([]*big.Rat, len(m.Prices))
	for i, end := range leaves(m.Tree) {
		prices[end] = rat(claims[i], 1)
	}
	areFractions := true
	for x := len(prices) - 1; x >= 0; x-- {
		if prices[x] != nil {
			continue
		}
		offers := offersAt(m, prices, x)
		for _, offer := range offers {
			areFractions = areFractions && offer.Denom().Cmp(big.NewInt(mostBottom)) <= 0
		}
		prices[x] = slices.MaxFunc(offers, func(f *big.Rat, g *big.Rat) int { return sign * f.Cmp(g) })
	}
	return prices, areFractions
}

// weightsOf returns a Tree with other weights of its ends.
func weightsOf(m impl.Market, weights []int) impl.Tree {
	return treeOf(m.Tree.Parents, weights...)
}

// areFair reports whether weights, from 1 on, are fair for a Market.
func areFair(m impl.Market, weights []int) bool {
	tree := weightsOf(m, weights)
	for x := range m.Prices {
		children, sum := childrenOf(tree, x), 0
		for _, child := range children {
			sum += weightBelow(tree, child) * m.Prices[child]
		}
		if len(children) > 0 && sum != weightBelow(tree, x)*m.Prices[x] {
			return false
		}
	}
	return true
}

// checkNoList checks that a call of a function that returns a list fails.
func checkNoList(t *testing.T) func(got []int, ok bool) {
	return func(got []int, ok bool) {
		t.Helper()
		if ok || len(got) > 0 {
			t.Errorf("%v, %v; want it to fail", got, ok)
		}
	}
}
