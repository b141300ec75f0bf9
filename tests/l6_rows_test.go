package tests

import (
	"fmt"
	"math"
	"math/big"
	"slices"
	"testing"

	"loop.example/g01131/impl"
)

// steps is a row: a number of steps, and how far the price goes up and down in each of them.
type steps struct{ n, up, down int }

func someRows() []steps {
	var rows []steps
	for n := range mostRows + 1 {
		for up := 1; up <= mostMove; up++ {
			for down := 1; down <= mostMove; down++ {
				rows = append(rows, steps{n, up, down})
			}
		}
	}
	return rows
}

// fewRows returns rows of all numbers of steps, with few moves.
func fewRows() []steps {
	isOften := func(r steps) bool {
		return !slices.Contains([]int{1, 2, mostMove}, r.up) || !slices.Contains([]int{1, 2, mostMove}, r.down)
	}
	return slices.DeleteFunc(someRows(), isOften)
}

// badRows returns rows that are not valid by just one of their numbers, or by all of them.
func badRows() []steps {
	rows := []steps{{mostRows + 1, 1, 1}, {1, mostMove + 1, 1}, {1, 1, mostMove + 1}, {0, mostMove + 1, 1}, {0, 1, mostMove + 1}}
	for _, n := range []int{-1, math.MaxInt, math.MinInt} {
		rows = append(rows, steps{n, 1, 1}, steps{1, n, 1}, steps{1, 1, n}, steps{0, n, 1}, steps{0, 1, n}, steps{n, n, n})
	}
	return append(rows, steps{1, 0, 1}, steps{1, 1, 0}, steps{0, 0, 1}, steps{0, 1, 0}, steps{1, 0, 0})
}

// weightOf returns the weight of a way with a number of steps up among some.
func (r steps) weightOf(ups int, all int) int {
	weight := 1
	for i := range all {
		if i < ups {
			weight *= r.down
		} else {
			weight *= r.up
		}
	}
	return weight
}

// value returns the fair value of a row: the mean of the values, each with the weights of all
// ways with its number of steps up.
func (r steps) value(values []int) *big.Rat {
	sum, all := rat(0, 1), len(values)-1
	weights := 0
	for ups, value := range values {
		ways := int(new(big.Int).Binomial(int64(all), int64(ups)).Int64())
		weight := ways * r.weightOf(ups, all)
		weights += weight
		sum.Add(sum, rat(weight*value, 1))
	}
	return sum.Quo(sum, rat(weights, 1))
}

// someValues returns values of a row, those at the limits among them.
func someValues(n int) [][]int {
	rolls := &dice{uint64(n + 9)}
	lists := make([][]int, 7)
	for i := range n + 1 {
		for k, value := range []int{
			mostPay, -mostPay, i, mostPay * (1 - i%2*2), i * i % 5, rolls.between(-mostPay, mostPay), rolls.between(-2, 2),
		} {
			lists[k] = append(lists[k], value)
		}
	}
	return lists
}

func TestPromise6RowValues(t *testing.T) {
	for _, r := range someRows() {
		for _, values := range someValues(r.n) {
			got, ok := impl.RowValue(r.n, r.up, r.down, values)
			checkFraction(t, fmt.Sprint("RowValue of ", r, values), got, ok, r.value(values))
		}
	}
}

func TestPromise6RowHoldings(t *testing.T) {
	for _, r := range someRows() {
		for _, values := range someValues(r.n) {
			got, ok := impl.RowHolding(r.n, r.up, r.down, values)
			if r.n == 0 {
				if ok || got != [2]int{} {
					t.Errorf("RowHolding of %v, %v = %v, %v", r, values, got, ok)
				}
				continue
			}
			want := new(big.Rat).Sub(r.value(values[1:]), r.value(values[:r.n]))
			checkFraction(t, fmt.Sprint("RowHolding of ", r, values), got, ok, want.Quo(want, rat(r.up+r.down, 1)))
		}
	}
}

func TestPromise6KnownRows(t *testing.T) {
	for _, x := range []struct {
		row     steps
		values  []int
		value   [2]int
		holding [2]int
	}{
		{steps{2, 1, 1}, []int{0, 1, 4}, [2]int{3, 2}, [2]int{1, 1}},
		{steps{1, 2, 1}, []int{0, 3}, [2]int{1, 1}, [2]int{1, 1}},
		{steps{1, 1, 2}, []int{0, 3}, [2]int{2, 1}, [2]int{1, 1}},
		{steps{1, mostMove, mostMove}, []int{mostPay, -mostPay}, [2]int{0, 1}, [2]int{-111, 1}},
		{steps{2, 1, 3}, []int{1, 0, 0}, [2]int{1, 16}, [2]int{-1, 16}},
		{steps{4, 1, 1}, []int{0, 0, 0, 0, 1}, [2]int{1, 16}, [2]int{1, 16}},
		{steps{4, 8, mostMove}, []int{1, 0, 0, 0, 0}, [2]int{4096, 83521}, [2]int{-512, 83521}},
		{steps{3, 2, 1}, []int{0, 0, 0, -27}, [2]int{-1, 1}, [2]int{-1, 1}},
	} {
		value, okValue := impl.RowValue(x.row.n, x.row.up, x.row.down, x.values)
		holding, okHolding := impl.RowHolding(x.row.n, x.row.up, x.row.down, x.values)
		if !okValue || !okHolding || value != x.value || holding != x.holding {
			t.Errorf("the row %v of %v: %v, %v and %v, %v", x.row, x.values, value, okValue, holding, okHolding)
		}
	}
	for _, value := range []int{0, 7, mostPay, -mostPay} {
		if got, ok := impl.RowValue(0, 3, mostMove, []int{value}); !ok || got != [2]int{value, 1} {
			t.Errorf("the row of no step of %d: %v, %v", value, got, ok)
		}
	}
}

// The value of a row and its holding are just enough behind the first step.
func TestPromise6RowsAreMatched(t *testing.T) {
	for _, r := range fewRows() {
		for _, values := range someValues(r.n) {
			if r.n == 0 {
				continue
			}
			value, _ := impl.RowValue(r.n, r.up, r.down, values)
			shares, _ := impl.RowHolding(r.n, r.up, r.down, values)
			afterUp, _ := impl.RowValue(r.n-1, r.up, r.down, values[1:])
			afterDown, _ := impl.RowValue(r.n-1, r.up, r.down, values[:r.n])
			for move, want := range map[int][2]int{r.up: afterUp, -r.down: afterDown} {
				got := new(big.Rat).Mul(exact(shares), rat(move, 1))
				if got.Add(got, exact(value)).Cmp(exact(want)) != 0 {
					t.Errorf("the row %v of %v begins with %v and %v, and has %v behind %d", r, values, value, shares, got, move)
				}
			}
		}
	}
}

func checkNoRow(t *testing.T, r steps, values []int) {
	t.Helper()
	if got, ok := impl.RowValue(r.n, r.up, r.down, values); ok || got != [2]int{} {
		t.Errorf("RowValue of %v, %.9v = %v, %v", r, values, got, ok)
	}
	if got, ok := impl.RowHolding(r.n, r.up, r.down, values); ok || got != [2]int{} {
		t.Errorf("RowHolding of %v, %.9v = %v, %v", r, values, got, ok)
	}
}

func TestPromise6NoRows(t *testing.T) {
	for _, r := range badRows() {
		for size := range mostRows + 3 {
			checkNoRow(t, r, make([]int, size))
		}
	}
	for _, r := range fewRows() {
		for _, bad := range badNumbers(r.n+1, mostPay) {
			checkNoRow(t, r, bad)
		}
	}
}

// steppedTable returns a table of a row whose numbers are made of the steps and the steps up.
func steppedTable(n int, number func(t int, ups int) int) [][]int {
	var table [][]int
	for t := range n + 1 {
		var list []int
		for ups := range t + 1 {
			list = append(list, number(t, ups))
		}
		table = append(table, list)
	}
	return table
}

// someTables returns tables of a row, those at the limits among them.
func someTables(n int) [][][]int {
	rolls := &dice{uint64(n + 11)}
	return [][][]int{
		steppedTable(n, func(t, ups int) int { return 0 }),
		steppedTable(n, func(t, ups int) int { return mostPay }),
		steppedTable(n, func(t, ups int) int { return -mostPay }),
		steppedTable(n, func(t, ups int) int { return mostPay * (1 - (t+ups)%2*2) }),
		steppedTable(n, func(t, ups int) int { return 2*ups - t }),
		steppedTable(n, func(t, ups int) int { return max(0, t-2*ups) }),
		steppedTable(n, func(t, ups int) int { return rolls.between(-mostPay, mostPay) }),
		steppedTable(n, func(t, ups int) int { return rolls.between(-3, 3) }),
		steppedTable(n, func(t, ups int) int { return rolls.between(0, 4) - t }),
	}
}

// bestEnd returns the greatest mean of all ways to end a row: a set of the places before the end,
// each a number of steps with one of steps up, at which it is ended.
func (r steps) bestEnd(table [][]int) *big.Rat {
	best := math.MinInt
	for set := range 1 << (r.n * (r.n + 1) / 2) {
		best = max(best, r.endedBy(table, set))
	}
	return rat(best, pow(r.up+r.down, r.n))
}

func pow(base int, exponent int) int {
	product := 1
	for range exponent {
		product *= base
	}
	return product
}

// endedBy returns the mean of a row that is ended at a set of places, times the weights of all
// ways.
func (r steps) endedBy(table [][]int, set int) int {
	sum := 0
	for way := range 1 << r.n {
		t, ups, all := 0, 0, 0
		for step := range r.n {
			all += way >> step & 1
		}
		for t < r.n && set>>(t*(t+1)/2+ups)&1 == 0 {
			ups += way >> t & 1
			t++
		}
		sum += table[t][ups] * r.weightOf(all, r.n)
	}
	return sum
}

func TestPromise6RowsThatAreEndedEarly(t *testing.T) {
	for _, r := range fewRows() {
		for _, table := range someTables(r.n) {
			got, ok := impl.RowEarly(r.n, r.up, r.down, table)
			checkFraction(t, fmt.Sprint("RowEarly of ", r, table), got, ok, r.bestEnd(table))
		}
	}
}

func TestPromise6KnownRowsThatAreEndedEarly(t *testing.T) {
	for _, x := range []struct {
		row   steps
		table [][]int
		want  [2]int
	}{
		{steps{1, 1, 1}, [][]int{{5}, {0, 4}}, [2]int{5, 1}}, {steps{1, 1, 1}, [][]int{{1}, {0, 4}}, [2]int{2, 1}}, {steps{1, 2, 1}, [][]int{{1}, {0, 4}}, [2]int{4, 3}},
		{steps{2, 1, 1}, [][]int{{0}, {3, 0}, {0, 2, 4}}, [2]int{3, 1}}, {steps{2, 1, 2}, [][]int{{0}, {3, 0}, {0, 0, 9}}, [2]int{5, 1}},
		{steps{0, 1, 1}, [][]int{{-7}}, [2]int{-7, 1}}, {steps{0, mostMove, mostMove}, [][]int{{mostPay}}, [2]int{mostPay, 1}},
	} {
		if got, ok := impl.RowEarly(x.row.n, x.row.up, x.row.down, x.table); !ok || got != x.want {
			t.Errorf("RowEarly of %v, %v = %v, %v", x.row, x.table, got, ok)
		}
	}
}

// To end a row early is at least as good as to wait for its end.
func TestPromise6EarlyIsAtLeastTheValue(t *testing.T) {
	for _, r := range someRows() {
		for _, table := range someTables(r.n) {
			early, okEarly := impl.RowEarly(r.n, r.up, r.down, table)
			value, okValue := impl.RowValue(r.n, r.up, r.down, table[r.n])
			if !okEarly || !okValue || exact(early).Cmp(exact(value)) < 0 || exact(early).Cmp(rat(table[0][0], 1)) < 0 {
				t.Errorf("the row %v of %v: %v, %v and %v, %v", r, table, early, okEarly, value, okValue)
			}
		}
	}
}

func TestPromise6NoEarlyRows(t *testing.T) {
	checkNone := func(r steps, table [][]int) {
		t.Helper()
		if got, ok := impl.RowEarly(r.n, r.up, r.down, table); ok || got != [2]int{} {
			t.Errorf("RowEarly of %v, %.99s = %v, %v", r, fmt.Sprint(table), got, ok)
		}
	}
	for _, r := range badRows() {
		for n := range mostRows + 3 {
			checkNone(r, someTables(n)[0])
		}
		checkNone(r, nil)
	}
	for _, r := range fewRows() {
		table := someTables(r.n)[7]
		checkNone(r, table[:r.n])
		checkNone(r, append(slices.Clone(table), make([]int, r.n+2)))
		checkNone(r, append(slices.Clone(table), nil))
		checkNone(r, nil)
		checkNone(r, make([][]int, r.n+1))
		checkNone(r, make([][]int, 1<<16))
		for step := range table {
			for _, bad := range badNumbers(step+1, mostPay) {
				other := slices.Clone(table)
				other[step] = bad
				checkNone(r, other)
			}
		}
	}
}

// rowParents returns the parents of the Trees of rows, written out.
func rowParents() [][]int {
	return [][]int{{-1}, {-1, 0, 0}, {-1, 0, 0, 1, 1, 2, 2}, {-1, 0, 0, 1, 1, 2, 2, 3, 3, 4, 4, 5, 5, 6, 6}}
}

func checkNoRowMarket(t *testing.T, r steps, p int) {
	t.Helper()
	if got, ok := impl.RowMarket(r.n, r.up, r.down, p); ok || !isNothing(got) {
		t.Errorf("RowMarket of %v, %d = %v, %v", r, p, got, ok)
	}
}

func TestPromise6RowMarkets(t *testing.T) {
	for _, r := range someRows() {
		for p := range mostPrice + 1 {
			if r.n > 3 || p+r.n*r.up > mostPrice || p-r.n*r.down < 0 {
				checkNoRowMarket(t, r, p)
				continue
			}
			want := flatMarket(treeOf(rowParents()[r.n], 1), p)
			for x, parent := range want.Tree.Parents[1:] {
				// The nodes behind the root take turns, beginning with a step up.
				move := []int{r.up, -r.down}[x%2]
				want.Prices[x+1] = want.Prices[parent] + move
			}
			got, ok := impl.RowMarket(r.n, r.up, r.down, p)
			if !ok || textOf(got.Tree) != textOf(want.Tree) || !slices.Equal(got.Prices, want.Prices) {
				t.Errorf("RowMarket of %v, %d = %v, %v; want %v", r, p, got, ok, want)
			}
		}
	}
}

func TestPromise6KnownRowMarkets(t *testing.T) {
	for _, x := range []struct {
		row    steps
		p      int
		text   string
		prices []int
	}{
		{steps{0, 1, 1}, 0, "-1:1", []int{0}}, {steps{0, mostMove, mostMove}, mostPrice, "-1:1", []int{mostPrice}},
		{steps{1, 2, 1}, 8, "-1:0 0:1 0:1", []int{8, 10, 7}},
		{steps{2, 3, 2}, 4, "-1:0 0:0 0:0 1:1 1:1 2:1 2:1", []int{4, 7, 2, 10, 5, 5, 0}},
		{
			steps{3, 4, 2}, 8, "-1:0 0:0 0:0 1:0 1:0 2:0 2:0 3:1 3:1 4:1 4:1 5:1 5:1 6:1 6:1",
			[]int{8, 12, 6, 16, 10, 10, 4, 20, 14, 14, 8, 14, 8, 8, 2},
		},
	} {
		got, ok := impl.RowMarket(x.row.n, x.row.up, x.row.down, x.p)
		if !ok || textOf(got.Tree) != x.text || !slices.Equal(got.Prices, x.prices) {
			t.Errorf("RowMarket of %v, %d = %v, %v", x.row, x.p, got, ok)
		}
	}
}

func TestPromise6NoRowMarkets(t *testing.T) {
	for _, r := range badRows() {
		for _, p := range []int{0, 1, 10, mostPrice} {
			checkNoRowMarket(t, r, p)
		}
	}
	for _, p := range []int{-1, mostPrice + 1, math.MaxInt, math.MaxInt - 1, math.MinInt, math.MinInt + 1} {
		for _, r := range someRows() {
			checkNoRowMarket(t, r, p)
		}
	}
	checkNoRowMarket(t, steps{mostRows, 1, 1}, 10)
}

// The Market of a row is full, and claims that depend on the number of steps up alone have the
// value of the row, as they have it behind each step.
func TestPromise6RowsAreWorthWhatTheirMarketsAre(t *testing.T) {
	markets := 0
	for _, r := range someRows() {
		for p := range mostPrice + 1 {
			m, ok := impl.RowMarket(r.n, r.up, r.down, p)
			if !ok {
				continue
			}
			markets++
			if isFull, ok := impl.IsFull(m); !ok || !isFull {
				t.Errorf("RowMarket of %v, %d is full: %v, %v", r, p, isFull, ok)
			}
			for _, values := range someValues(r.n) {
				checkWorth(t, r, m, values)
			}
		}
	}
	if markets < 1000 {
		t.Errorf("only %d Markets", markets)
	}
}

// upsTo returns the number of steps up on the way to a node of the Market of a row.
func upsTo(m impl.Market, x int) int {
	ups := 0
	for ; x > 0; x = m.Tree.Parents[x] {
		ups += x % 2
	}
	return ups
}

func checkWorth(t *testing.T, r steps, m impl.Market, values []int) {
	t.Helper()
	values = slices.Clone(values)
	for i := range values {
		values[i] %= mostClaim + 1
	}
	var claims []int
	for _, end := range leaves(m.Tree) {
		claims = append(claims, values[upsTo(m, end)])
	}
	upper, ok := impl.UpperPrices(m, claims)
	if !ok || len(upper) != len(m.Prices) {
		t.Fatalf("UpperPrices(%v, %v) = %v, %v", m, claims, upper, ok)
	}
	for x := range upper {
		ups, depth := upsTo(m, x), depthOf(m.Tree, x)
		value, ok := impl.RowValue(r.n-depth, r.up, r.down, values[ups:ups+r.n-depth+1])
		if !ok || upper[x] != value {
			t.Errorf("claims %v of the row %v have the upper prices %v, and at %d the value %v", values, r, upper, x, value)
		}
	}
}
