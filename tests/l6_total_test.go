package tests

import (
	"fmt"
	"math"
	"slices"
	"testing"

	"loop.example/g01131/impl"
)

// marketCall calls one function of Markets with arguments of its choice, and returns its results
// but for the last one, and this.
type marketCall struct {
	name string
	call func(m impl.Market, a []int, b []int, n int) (any, bool)
}

// marketCalls returns a call of each function of chapter 6 that has a Market as its argument.
func marketCalls() []marketCall {
	type market = impl.Market
	return []marketCall{
		{"IsMarket", func(m market, a, b []int, n int) (any, bool) { ok := impl.IsMarket(m); return ok, ok }},
		{"WealthOf", func(m market, a, b []int, n int) (any, bool) { return anyOf(impl.WealthOf(m, n, a)) }},
		{"DoCoverClaims", func(m market, a, b []int, n int) (any, bool) { return anyOf(impl.DoCoverClaims(m, n, a, b)) }},
		{"DoMatchClaims", func(m market, a, b []int, n int) (any, bool) { return anyOf(impl.DoMatchClaims(m, n, a, b)) }},
		{"UnevenNode", func(m market, a, b []int, n int) (any, bool) { return anyOf(impl.UnevenNode(m)) }},
		{"FreeGain", func(m market, a, b []int, n int) (any, bool) { return anyOf(impl.FreeGain(m)) }},
		{"AreFairWeights", func(m market, a, b []int, n int) (any, bool) { return anyOf(impl.AreFairWeights(m, a)) }},
		{"UpperPrices", func(m market, a, b []int, n int) (any, bool) { return anyOf(impl.UpperPrices(m, a)) }},
		{"LowerPrices", func(m market, a, b []int, n int) (any, bool) { return anyOf(impl.LowerPrices(m, a)) }},
		{"IsFull", func(m market, a, b []int, n int) (any, bool) { return anyOf(impl.IsFull(m)) }},
		{"ShareClaims", func(m market, a, b []int, n int) (any, bool) { return anyOf(impl.ShareClaims(m)) }},
		{"CallClaims", func(m market, a, b []int, n int) (any, bool) { return anyOf(impl.CallClaims(m, n)) }},
		{"PutClaims", func(m market, a, b []int, n int) (any, bool) { return anyOf(impl.PutClaims(m, n)) }},
	}
}

func TestPromise13MarketsAndListsOfAllKinds(t *testing.T) {
	bad := badMarkets()
	markets := slices.Concat(bad, coverable(), []impl.Market{
		flatMarket(limitTrees()[2], 0), flatMarket(limitTrees()[4], mostPrice), ladderMarket(11), marketOf([]int{-1, 0}, 0, mostPrice),
	})
	lists, numbers := oddLists(), oddNumbers()
	for _, call := range marketCalls() {
		for i, m := range markets {
			for k, a := range lists {
				for _, n := range numbers {
					result, ok := call.call(m, a, lists[k%5], n)
					if !ok && !isNothing(result) {
						t.Fatalf("%s of Market %d, %.9v, %d fails with %v", call.name, i, a, n, result)
					}
					if ok && i < len(bad) {
						t.Fatalf("%s of Market %d, %.9v, %d = %v, but the Market is bad", call.name, i, a, n, result)
					}
				}
			}
		}
	}
}

// Each call is made twice with arguments that must stay as they are; what it returns is written
// to in between, and must be memory of its own.
func TestPromise13MarketsAndListsStayAsTheyAre(t *testing.T) {
	markets := append(coverable(), ladderMarket(5), marketOf([]int{-1, 0}, 0, mostPrice), marketOf([]int{-1, 0}, 0, mostPrice+1), impl.Market{})
	for _, m := range markets {
		ends := len(leaves(m.Tree))
		lists := [][]int{
			heldBy(m, 1, 0), make([]int, len(m.Prices)), make([]int, ends), slices.Repeat([]int{1}, ends), slices.Repeat([]int{-7}, ends), {}, {5}, {100, 100}, {3, 1, 2},
		}
		for _, call := range marketCalls() {
			for _, a := range lists {
				for _, b := range lists {
					for _, n := range []int{-1, 0, 4, mostPrice + 1} {
						checkMarketKept(t, call, m, a, b, n)
					}
				}
			}
		}
	}
}

func checkMarketKept(t *testing.T, call marketCall, m impl.Market, a []int, b []int, n int) {
	t.Helper()
	var arguments, wholes, kept [5][]int
	for i, list := range [][]int{m.Tree.Parents, m.Tree.Weights, m.Prices, a, b} {
		arguments[i], wholes[i] = roomy(list)
		kept[i] = slices.Clone(wholes[i])
	}
	given := impl.Market{Tree: impl.Tree{Parents: arguments[0], Weights: arguments[1]}, Prices: arguments[2]}
	first, ok := call.call(given, arguments[3], arguments[4], n)
	want := fmt.Sprint(first, ok)
	overwrite(first)
	for i := range wholes {
		if !slices.Equal(wholes[i], kept[i]) {
			t.Fatalf("%s of %v, %v, %v, %d changes an argument or shares its memory", call.name, m, a, b, n)
		}
	}
	if second, ok := call.call(given, arguments[3], arguments[4], n); fmt.Sprint(second, ok) != want {
		t.Fatalf("%s of %v, %v, %v, %d returns %s, and then %v, %v", call.name, m, a, b, n, want, second, ok)
	}
}

// rowEdges returns numbers at the limits of rows and just beyond them, and those at the limits
// of int.
func rowEdges() []int {
	return []int{0, 1, 3, mostRows, mostRows + 1, mostMove, mostMove + 1, mostPrice, mostPrice + 1, -1, math.MaxInt, math.MinInt}
}

func isRow(n []int) bool {
	return isIn(n[0], 0, mostRows) && isIn(n[1], 1, mostMove) && isIn(n[2], 1, mostMove)
}

func TestPromise13RowsOfAllNumbers(t *testing.T) {
	tuples(rowEdges(), 3, func(n []int) {
		for _, list := range oddLists() {
			fits := isRow(n) && len(list) == n[0]+1 && areFrom(list, -mostPay, mostPay)
			value, ok := impl.RowValue(n[0], n[1], n[2], list)
			if ok != fits || impl.IsFraction(value) != fits || !fits && !isNothing(value) {
				t.Errorf("RowValue of %v, %.9v = %v, %v", n, list, value, ok)
			}
			holding, ok := impl.RowHolding(n[0], n[1], n[2], list)
			if fits = fits && n[0] > 0; ok != fits || impl.IsFraction(holding) != fits || !fits && !isNothing(holding) {
				t.Errorf("RowHolding of %v, %.9v = %v, %v", n, list, holding, ok)
			}
		}
	})
	tuples(rowEdges(), 4, func(n []int) {
		fits := isRow(n) && n[0] <= 3 && isIn(n[3], n[0]*n[2], mostPrice-n[0]*n[1])
		m, ok := impl.RowMarket(n[0], n[1], n[2], n[3])
		if ok != fits || impl.IsMarket(m) != fits || !fits && !isNothing(m) {
			t.Errorf("RowMarket of %v = %v, %v", n, m, ok)
		}
	})
}

func TestPromise13TablesOfRowsOfAllKinds(t *testing.T) {
	lists := oddLists()
	tables := [][][]int{nil, {}, lists, make([][]int, 1<<12)}
	for i, list := range lists {
		tables = append(tables, [][]int{list}, [][]int{{0}, list}, [][]int{{1}, {2, 3}, list}, [][]int{lists[len(lists)-1-i], {0, 0}})
	}
	for _, table := range tables {
		tuples(rowEdges(), 3, func(n []int) {
			fits := isRow(n) && len(table) == n[0]+1
			for t := 0; fits && t < len(table); t++ {
				fits = len(table[t]) == t+1 && areFrom(table[t], -mostPay, mostPay)
			}
			got, ok := impl.RowEarly(n[0], n[1], n[2], table)
			if ok != fits || impl.IsFraction(got) != fits || !fits && !isNothing(got) {
				t.Errorf("RowEarly of %v, %.99s = %v, %v", n, fmt.Sprint(table), got, ok)
			}
		})
	}
}

func TestPromise13RowsStayAsTheyAre(t *testing.T) {
	for _, r := range fewRows() {
		for _, list := range append(someValues(r.n), nil, []int{1000}) {
			given, whole := roomy(list)
			kept := slices.Clone(whole)
			want := fmt.Sprint(impl.RowValue(r.n, r.up, r.down, given))
			held := fmt.Sprint(impl.RowHolding(r.n, r.up, r.down, given))
			if !slices.Equal(whole, kept) || fmt.Sprint(impl.RowValue(r.n, r.up, r.down, given)) != want || fmt.Sprint(impl.RowHolding(r.n, r.up, r.down, given)) != held {
				t.Errorf("the row %v changes %v, or does not return %s and %s again", r, list, want, held)
			}
		}
		for _, table := range append(someTables(r.n), nil, [][]int{{1000}}) {
			var given, wholes [][]int
			for _, list := range table {
				list, whole := roomy(list)
				given, wholes = append(given, list), append(wholes, whole)
			}
			lists, kept := slices.Clone(given), cloneTable(wholes)
			want := fmt.Sprint(impl.RowEarly(r.n, r.up, r.down, given))
			if !sameTables(given, lists) || !sameTables(wholes, kept) || fmt.Sprint(impl.RowEarly(r.n, r.up, r.down, given)) != want {
				t.Errorf("RowEarly of %v changes %v, or does not return %s again", r, table, want)
			}
		}
	}
}

// Each list of a result is written to, the room behind its end included, and the others stay.
func TestPromise13ListsOfRowMarketsAreTheirOwn(t *testing.T) {
	for n := range 4 {
		first, ok := impl.RowMarket(n, 2, 3, 10)
		want := fmt.Sprint(first)
		again, _ := impl.RowMarket(n, 2, 3, 10)
		for i, list := range [][]int{first.Tree.Parents, first.Tree.Weights, first.Prices} {
			kept := slices.Clone(list)
			fill([][]int{again.Tree.Parents, again.Tree.Weights, again.Prices}[i])
			if !ok || !slices.Equal(list, kept) {
				t.Errorf("RowMarket of %d steps returns the same list %d twice", n, i)
			}
		}
		fill(first.Tree.Parents)
		weights, prices := slices.Clone(first.Tree.Weights), slices.Clone(first.Prices)
		fill(first.Tree.Parents)
		if !slices.Equal(first.Tree.Weights, weights) || !slices.Equal(first.Prices, prices) || slices.Contains(weights, -5) || slices.Contains(prices, -5) {
			t.Errorf("lists of RowMarket of %d steps share memory: %v", n, first)
		}
		fill(first.Tree.Weights)
		if !slices.Equal(first.Prices, prices) {
			t.Errorf("lists of RowMarket of %d steps share memory: %v", n, first)
		}
		fill(first.Prices)
		if third, ok := impl.RowMarket(n, 2, 3, 10); !ok || fmt.Sprint(third) != want {
			t.Errorf("a Market that was written to comes again: %v", third)
		}
	}
}
