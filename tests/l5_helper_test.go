package tests

import (
	"math"
	"math/big"
	"slices"
)

// The limits are written out so that a changed constant is noticed.
const (
	mostGoal  = 12
	mostWalk  = 30
	mostRolls = 8
	mostTable = 1000000000000000
)

// wager has the weights of a roll that is won and of one that is lost, and the goal.
type wager struct{ a, b, n int }

// wagersOf returns the wagers of all pairs of some weights, and all goals.
func wagersOf(weights ...int) []wager {
	var wagers []wager
	for _, a := range weights {
		for _, b := range weights {
			for n := 1; n <= mostGoal; n++ {
				wagers = append(wagers, wager{a, b, n})
			}
		}
	}
	return wagers
}

func someWagers() []wager {
	return wagersOf(1, 2, 3, 7, 19, mostWeight)
}

func allWagers() []wager {
	var weights []int
	for weight := 1; weight <= mostWeight; weight++ {
		weights = append(weights, weight)
	}
	return wagersOf(weights...)
}

// badWagers returns wagers that are not valid by just one of their numbers.
func badWagers() []wager {
	var wagers []wager
	for _, n := range []int{0, -1, math.MaxInt, math.MinInt} {
		wagers = append(wagers, wager{n, 1, 2}, wager{1, n, 2}, wager{n, n, 2}, wager{1, 2, n}, wager{1, 1, n})
	}
	return append(wagers,
		wager{mostWeight + 1, 1, 2}, wager{1, mostWeight + 1, 2}, wager{mostWeight + 1, mostWeight + 1, 2},
		wager{1, 2, mostGoal + 1}, wager{1, 1, mostGoal + 1})
}

// chances returns for each fortune the chance to come to the goal: from each fortune to the next
// one it grows b divided by a times as much as before.
func (w wager) chances() []*big.Rat {
	growth, sum := rat(1, 1), rat(0, 1)
	sums := []*big.Rat{rat(0, 1)}
	for range w.n {
		sum = new(big.Rat).Add(sum, growth)
		sums = append(sums, sum)
		growth = new(big.Rat).Mul(growth, rat(w.b, w.a))
	}
	for i := range sums {
		sums[i] = new(big.Rat).Quo(sums[i], sum)
	}
	return sums
}

// means returns for each fortune the mean number of rolls: that at i is 1 more than the means
// behind a roll. All of them are told as x + y times that at 1, until that at the goal, 0, is met.
func (w wager) means() []*big.Rat {
	x, y := []*big.Rat{rat(0, 1), rat(0, 1)}, []*big.Rat{rat(0, 1), rat(1, 1)}
	// next solves a roll from i for what is had if it is won.
	next := func(list []*big.Rat, i int, rolls int) *big.Rat {
		all := new(big.Rat).Mul(rat(w.a+w.b, w.a), new(big.Rat).Sub(list[i], rat(rolls, 1)))
		return all.Sub(all, new(big.Rat).Mul(rat(w.b, w.a), list[i-1]))
	}
	for i := 1; i < w.n; i++ {
		x, y = append(x, next(x, i, 1)), append(y, next(y, i, 0))
	}
	first := new(big.Rat).Neg(new(big.Rat).Quo(x[w.n], y[w.n]))
	var means []*big.Rat
	for i := range x {
		mean := new(big.Rat).Mul(y[i], first)
		means = append(means, mean.Add(mean, x[i]))
	}
	return means
}

// steps adds the weights of all orders of k rolls of timid play from i to those of the fortunes
// to which they lead.
func (w wager) steps(sums []int, i int, k int, weight int) {
	stake := 1
	switch {
	case k == 0:
		sums[i] += weight
		return
	case i == 0 || i == w.n:
		stake = 0
	}
	w.steps(sums, i+stake, k-1, weight*w.a)
	w.steps(sums, i-stake, k-1, weight*w.b)
}

// The ways to stake return the stakes among which they choose, if most can be staked.
func timid(most int) []int { return []int{min(most, 1)} }

func bold(most int) []int { return []int{most} }

func anyStake(most int) []int {
	var stakes []int
	for stake := 0; stake <= most; stake++ {
		stakes = append(stakes, stake)
	}
	return stakes
}

// afterStake returns what a stake at i is worth, if the numbers of next are had behind it.
func (w wager) afterStake(next []int, i int, stake int) int {
	return w.a*next[i+stake] + w.b*next[i-stake]
}

// rowBefore returns for each fortune the greatest number that one of the stakes is worth.
func (w wager) rowBefore(next []int, stakes func(most int) []int) []int {
	var row []int
	for i := 0; i <= w.n; i++ {
		var worth []int
		for _, stake := range stakes(min(i, w.n-i)) {
			worth = append(worth, w.afterStake(next, i, stake))
		}
		row = append(row, slices.Max(worth))
	}
	return row
}

// table returns the table for k rolls of a way to stake.
func (w wager) table(k int, stakes func(most int) []int) [][]int {
	row := make([]int, w.n+1)
	row[w.n] = 1
	table := [][]int{row}
	for range k {
		row = w.rowBefore(row, stakes)
		table = append(table, row)
	}
	return table
}

// isSafe reports whether a table of any numbers is safe.
func (w wager) isSafe(table [][]int) bool {
	if len(table) < 1 || len(table) > mostRolls+1 {
		return false
	}
	for _, row := range table {
		if len(row) != w.n+1 || !areFrom(row, 0, mostTable) {
			return false
		}
	}
	for k := 1; k < len(table); k++ {
		for i := range table[k] {
			for stake := 0; stake <= i && stake <= w.n-i; stake++ {
				if table[k][i] < w.afterStake(table[k-1], i, stake) {
					return false
				}
			}
		}
	}
	return table[0][w.n] >= 1
}

func cloneTable(table [][]int) [][]int {
	var clone [][]int
	for _, row := range table {
		clone = append(clone, slices.Clone(row))
	}
	return clone
}

func sameTables(a [][]int, b [][]int) bool {
	return slices.EqualFunc(a, b, slices.Equal[[]int])
}

// countWalks returns how many walks of m steps there are for each state to which they lead; step
// returns the state behind a step up or down, or false if such a walk does not count.
func countWalks[S comparable](m int, first S, step func(before S, up int) (S, bool)) map[S]int {
	counts := map[S]int{first: 1}
	for range m {
		next := map[S]int{}
		for before, count := range counts {
			for _, up := range []int{1, -1} {
				if after, ok := step(before, up); ok {
					next[after] += count
				}
			}
		}
		counts = next
	}
	return counts
}

// marked is where a walk is, and how often something has happened on it.
type marked struct{ at, times int }

// marksOf returns the number of walks on which something has happened 0, 1, .. up to most times.
func marksOf(counts map[marked]int, most int) []int {
	sums := make([]int, most+1)
	for state, count := range counts {
		sums[state.times] += count
	}
	return sums
}
