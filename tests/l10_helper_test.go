package tests

import (
	"math"
	"slices"
)

// The limits are written out so that a changed constant is noticed.
const (
	mostSpots     = 8
	mostUnits     = 40
	mostCost      = 99
	mostPotential = 999
)

// pair is two spreads that are alike.
type pair struct{ p, q []int }

// spreadsOf returns all spreads of a number of spots with a size.
func spreadsOf(spots int, size int) [][]int {
	if spots == 1 {
		return [][]int{{size}}
	}
	var spreads [][]int
	for units := range size + 1 {
		for _, rest := range spreadsOf(spots-1, size-units) {
			spreads = append(spreads, append([]int{units}, rest...))
		}
	}
	return spreads
}

// smallPairs returns all pairs of few spots and units.
func smallPairs() []pair {
	var pairs []pair
	for _, limit := range [][2]int{{1, 5}, {2, 6}, {3, 5}, {4, 4}, {5, 2}, {6, 2}, {mostSpots, 1}} {
		for size := 1; size <= limit[1]; size++ {
			for _, p := range spreadsOf(limit[0], size) {
				for _, q := range spreadsOf(limit[0], size) {
					pairs = append(pairs, pair{p, q})
				}
			}
		}
	}
	return pairs
}

// rolledSpread returns a spread of a size that leaves some spots without units now and then.
func rolledSpread(rolls *dice, spots int, size int) []int {
	p := make([]int, spots)
	low := rolls.below(spots)
	high := rolls.between(low, spots-1)
	for range size {
		p[rolls.between(low, high)]++
	}
	return p
}

// rolledPairs returns pairs of all numbers of spots, and of sizes up to the limit.
func rolledPairs(number int) []pair {
	var pairs []pair
	rolls := &dice{10}
	for i := range number {
		spots, size := i%mostSpots+1, []int{rolls.between(1, mostUnits), mostUnits, rolls.between(1, 9)}[i/mostSpots%3]
		pairs = append(pairs, pair{rolledSpread(rolls, spots, size), rolledSpread(rolls, spots, size)})
	}
	return pairs
}

// limitPairs returns pairs of one spot, of one unit, and of as many of both as there may be.
func limitPairs() []pair {
	first, last := make([]int, mostSpots), make([]int, mostSpots)
	first[0], last[mostSpots-1] = mostUnits, mostUnits
	even, ends := slices.Repeat([]int{5}, mostSpots), []int{20, 0, 0, 0, 0, 0, 0, 20}
	middle, steps := []int{0, 0, 0, 20, 20, 0, 0, 0}, []int{1, 2, 3, 4, 6, 7, 8, 9}
	pairs := []pair{{[]int{1}, []int{1}}, {[]int{mostUnits}, []int{mostUnits}}, {[]int{0, 1}, []int{1, 0}}, {[]int{1, 0, 0, 0, 0, 0, 0, 0}, []int{0, 0, 0, 0, 0, 0, 0, 1}}}
	lists := [][]int{first, last, even, ends, middle, steps}
	for _, p := range lists {
		for _, q := range lists {
			pairs = append(pairs, pair{p, q})
		}
	}
	return pairs
}

// widePairs returns pairs of which the one is wider than the other one: units have gone apart, as
// many up as down.
func widePairs(number int) []pair {
	var pairs []pair
	rolls := &dice{11}
	for range number {
		q := rolledSpread(rolls, rolls.between(3, mostSpots), rolls.between(2, mostUnits))
		p := slices.Clone(q)
		for range rolls.between(1, 6) {
			low := rolls.between(1, len(p)-2)
			high := rolls.between(low, len(p)-2)
			if p[low] > 0 && p[high] > 0 && (low < high || p[low] > 1) {
				goApart(p, low, high)
			}
		}
		pairs = append(pairs, pair{p, q})
	}
	return pairs
}

// goApart moves one unit from a spot down and another one from no less a spot up.
func goApart(p []int, low int, high int) {
	p[low]--
	p[low-1]++
	p[high]--
	p[high+1]++
}

// manyPairs returns pairs of all kinds.
func manyPairs() []pair {
	return slices.Concat(limitPairs(), smallPairs(), rolledPairs(1200), widePairs(400))
}

func sumOf(numbers []int) int {
	sum := 0
	for _, n := range numbers {
		sum += n
	}
	return sum
}

// isSpread reports whether a list is a spread.
func isSpread(p []int) bool {
	return isIn(len(p), 1, mostSpots) && areFrom(p, 0, mostUnits) && isIn(sumOf(p), 1, mostUnits)
}

func areAlike(p []int, q []int) bool {
	return isSpread(p) && isSpread(q) && len(p) == len(q) && sumOf(p) == sumOf(q)
}

// unitsIn returns the spots of all units, in their order.
func unitsIn(p []int) []int {
	var units []int
	for spot, n := range p {
		units = append(units, slices.Repeat([]int{spot}, n)...)
	}
	return units
}

// noUnits returns a table of 0 alone.
func noUnits(spots int) [][]int {
	var table [][]int
	for range spots {
		table = append(table, make([]int, spots))
	}
	return table
}

// plans calls visit with all plans of two spreads.
func plans(p []int, q []int, visit func(plan [][]int)) {
	has, lacks, plan := slices.Clone(p), slices.Clone(q), noUnits(len(p))
	var fill func(cell int)
	fill = func(cell int) {
		from, to := cell/len(p), cell%len(p)
		if from == len(p) {
			visit(plan)
			return
		}
		least := 0
		if to == len(p)-1 {
			least = has[from]
		}
		for units := least; units <= min(has[from], lacks[to]); units++ {
			plan[from][to] = units
			has[from], lacks[to] = has[from]-units, lacks[to]-units
			fill(cell + 1)
			has[from], lacks[to] = has[from]+units, lacks[to]+units
		}
		plan[from][to] = 0
	}
	fill(0)
}

// isPlan reports whether a table of any numbers is a plan of two spreads that are alike.
func isPlan(p []int, q []int, table [][]int) bool {
	if len(table) != len(p) {
		return false
	}
	columns := make([]int, len(q))
	for from, row := range table {
		if len(row) != len(q) || !areFrom(row, 0, mostUnits) || sumOf(row) != p[from] {
			return false
		}
		for to, units := range row {
			columns[to] += units
		}
	}
	return slices.Equal(columns, q)
}

// shifted returns a table with n more at one place.
func shifted(table [][]int, from int, to int, n int) [][]int {
	table = cloneTable(table)
	table[from][to] += n
	return table
}

// turned returns a table with rows and columns exchanged.
func turned(table [][]int) [][]int {
	other := noUnits(len(table))
	for from, row := range table {
		for to, n := range row {
			other[to][from] = n
		}
	}
	return other
}

// otherSizes returns tables that have not just n rows of n numbers.
func otherSizes(table [][]int) [][][]int {
	n := len(table)
	tables := [][][]int{nil, {}, table[:n-1], append(cloneTable(table), make([]int, n)), append(cloneTable(table), nil), make([][]int, n), make([][]int, 1<<16)}
	for i := range table {
		for _, row := range [][]int{nil, table[i][1:], table[i][:n-1], append(slices.Clone(table[i]), 0), append([]int{0}, table[i]...), make([]int, 1<<16)} {
			other := cloneTable(table)
			other[i] = row
			tables = append(tables, other)
		}
		if i > 0 {
			// As many numbers in all, and as many rows.
			other := cloneTable(table)
			other[0], other[i] = append(other[0], 0), other[i][1:]
			tables = append(tables, other)
		}
	}
	return append(tables, [][]int{append([]int{0}, slices.Concat(table...)...)}, append(cloneTable(table), cloneTable(table)...))
}

// badPlans returns tables that are no plans of two spreads, by their size, their numbers or their
// sums.
func badPlans(p []int, q []int, plan [][]int) [][][]int {
	last := len(p) - 1
	tables := [][][]int{shifted(plan, 0, 0, 1), shifted(plan, 0, 0, -1), shifted(plan, last, last, 1), shifted(plan, last, 0, mostUnits+1)}
	for _, n := range []int{math.MaxInt, math.MinInt, -mostUnits - 1} {
		tables = append(tables, shifted(plan, 0, last, n))
		if last > 0 {
			// The sums of all rows and columns stay.
			tables = append(tables, shifted(shifted(shifted(shifted(plan, 0, 0, n), 0, last, -n), last, 0, -n), last, last, n))
		}
	}
	if last > 0 {
		// The sums of the rows stay, or those of the columns.
		tables = append(tables, shifted(shifted(plan, 0, 0, 1), 0, last, -1), shifted(shifted(plan, 0, 0, 1), last, 0, -1), shifted(shifted(plan, last, 0, 1), last, last, -1), shifted(shifted(plan, 0, last, -1), last, last, 1))
	}
	if !slices.Equal(p, q) {
		tables = append(tables, turned(plan))
	}
	tables = append(tables, otherSizes(plan)...)
	return slices.DeleteFunc(tables, func(table [][]int) bool { return isPlan(p, q, table) })
}

// badSpreads returns lists that are no spreads.
func badSpreads() [][]int {
	lists := [][]int{
		nil, {}, {0}, {0, 0}, make([]int, mostSpots), make([]int, mostSpots+1), slices.Repeat([]int{1}, mostSpots+1), append(make([]int, mostSpots), 1), append([]int{1}, make([]int, mostSpots)...), slices.Repeat([]int{5, 0}, mostSpots),
		{mostUnits, 1}, {20, 21}, {1, 0, mostUnits}, {5, 5, 5, 5, 5, 5, 5, 6}, slices.Repeat([]int{mostUnits}, mostSpots), {2, -1}, {-1, 2}, {0, -1, 1}, {mostUnits + 1, -1}, {mostUnits, 1, -1},
		{math.MaxInt, math.MaxInt, 3}, {math.MinInt, math.MinInt, 1}, {math.MinInt, math.MaxInt, 2}, {1 << 62, 1 << 62, 1 << 62, 1 << 62, 9}, make([]int, 1<<16), append(make([]int, 1<<16), 1),
	}
	for _, n := range []int{-1, mostUnits + 1, math.MaxInt, math.MinInt} {
		lists = append(lists, []int{n}, []int{1, n}, []int{n, 1}, []int{n, -n, 1}, []int{0, 0, 0, 0, 0, 0, 1, n})
	}
	return lists
}

// unlikePairs returns pairs of spreads that are not alike, by the number of spots or the size.
func unlikePairs() []pair {
	return []pair{
		{[]int{1}, []int{2}}, {[]int{1}, []int{1, 0}}, {[]int{0, 1}, []int{1}}, {[]int{1, 1}, []int{2}}, {[]int{2, 1}, []int{2, 0}}, {[]int{2, 0}, []int{2, 1}}, {[]int{3, 0, 1}, []int{3, 1}}, {[]int{3, 1}, []int{0, 3, 1}}, {[]int{1, 1}, []int{1, 1, 1}},
		{[]int{mostUnits}, []int{mostUnits - 1}}, {[]int{mostUnits}, []int{20, 20}}, {[]int{mostUnits}, []int{mostUnits, 0, 0, 0, 0, 0, 0, 0}}, {[]int{5, 5, 5, 5, 5, 5, 5, 5}, []int{5, 5, 5, 5, 5, 5, 5, 4}}, {[]int{0, 0, 0, 0, 0, 0, 0, 1}, []int{0, 0, 0, 0, 0, 0, 1}},
	}
}

// noPairs returns pairs of lists of which one at least is no spread, or which are not alike.
func noPairs() []pair {
	pairs := unlikePairs()
	for _, bad := range badSpreads() {
		good := []int{1, 2}
		if isIn(len(bad), 1, mostSpots) {
			good = make([]int, len(bad))
			good[0] = min(max(sumOf(bad), 1), mostUnits)
		}
		pairs = append(pairs, pair{bad, good}, pair{good, bad}, pair{bad, bad})
	}
	return pairs
}

// costTable returns the table of the costs of all pairs of spots.
func costTable(spots int, cost func(from int, to int) int) [][]int {
	table := noUnits(spots)
	for from, row := range table {
		for to := range row {
			row[to] = cost(from, to)
		}
	}
	return table
}

func apart(from int, to int) int { return max(from-to, to-from) }

func apartSquared(from int, to int) int { return (from - to) * (from - to) }

func isMove(from int, to int) int { return min(apart(from, to), 1) }

// someCosts returns cost tables, at the limits, with many ties, and rolled ones.
func someCosts(rolls *dice, spots int) [][][]int {
	var tables [][][]int
	for _, cost := range []func(from int, to int) int{
		func(from int, to int) int { return 0 }, func(from int, to int) int { return mostCost }, func(from int, to int) int { return mostCost * isMove(from, to) }, func(from int, to int) int { return mostCost - 7*apart(from, to) },
		func(from int, to int) int { return 12*from + to }, func(from int, to int) int { return rolls.below(2) }, func(from int, to int) int { return rolls.between(0, mostCost) }, func(from int, to int) int { return mostCost * rolls.below(2) },
		func(from int, to int) int { return 12*from*to%97 + rolls.below(3) },
	} {
		tables = append(tables, costTable(spots, cost))
	}
	return tables
}

// badCosts returns tables that are no cost tables of a number of spots, by their size or a number.
func badCosts(spots int) [][][]int {
	good := costTable(spots, func(from int, to int) int { return (5*from + to) % 100 })
	tables := otherSizes(good)
	for _, n := range []int{-1, mostCost + 1, math.MaxInt, math.MinInt} {
		for _, at := range [][2]int{{0, 0}, {0, spots - 1}, {spots - 1, 0}, {spots - 1, spots - 1}} {
			other := cloneTable(good)
			other[at[0]][at[1]] = n
			tables = append(tables, other)
		}
	}
	return tables
}

// costOf returns the cost of a plan, unit by unit.
func costOf(plan [][]int, costs [][]int) int {
	cost := 0
	for from, row := range plan {
		for to, units := range row {
			for range units {
				cost += costs[from][to]
			}
		}
	}
	return cost
}

// areCosts reports whether a table is a cost table of a number of spots.
func areCosts(costs [][]int, spots int) bool {
	isBad := func(row []int) bool { return len(row) != spots || !areFrom(row, 0, mostCost) }
	return len(costs) == spots && !slices.ContainsFunc(costs, isBad)
}

// matched gives each unit of p a place of q, one after the other, by the cheapest exchange of places,
// with numbers for units and places that prove it; from these come potentials of the spots.
func matched(p []int, q []int, costs [][]int) (u []int, w []int) {
	units, places := unitsIn(p), unitsIn(q)
	size := len(units)
	first, second, owner := make([]int, size), make([]int, size+1), slices.Repeat([]int{-1}, size+1)
	for unit := range units {
		least, before, seen := slices.Repeat([]int{math.MaxInt}, size+1), make([]int, size+1), make([]bool, size+1)
		at := size
		owner[size] = unit
		for owner[at] >= 0 {
			seen[at] = true
			next, shift := -1, math.MaxInt
			for k, place := range places {
				if seen[k] {
					continue
				}
				if rest := costs[units[owner[at]]][place] - first[owner[at]] - second[k]; rest < least[k] {
					least[k], before[k] = rest, at
				}
				if least[k] < shift {
					next, shift = k, least[k]
				}
			}
			for k := range seen {
				if seen[k] {
					first[owner[k]] += shift
					second[k] -= shift
				} else {
					least[k] -= shift
				}
			}
			at = next
		}
		for at != size {
			owner[at] = owner[before[at]]
			at = before[at]
		}
		owner[size] = -1
	}
	return spotNumbers(p, q, costs, places, second)
}

// spotNumbers raises the numbers of places to potentials of spots, as far as the costs allow.
func spotNumbers(p []int, q []int, costs [][]int, places []int, numbers []int) ([]int, []int) {
	u, w := make([]int, len(p)), make([]int, len(q))
	for from := range u {
		u[from] = mostPotential
		for k, place := range places {
			u[from] = min(u[from], costs[from][place]-numbers[k])
		}
	}
	for to := range w {
		w[to] = mostPotential
		for from := range u {
			w[to] = min(w[to], costs[from][to]-u[from])
		}
	}
	return u, w
}

// boundBy returns the sum of the units of p times u and of those of q times w.
func boundBy(x pair, u []int, w []int) int {
	bound := 0
	for spot := range x.p {
		bound += x.p[spot]*u[spot] + x.q[spot]*w[spot]
	}
	return bound
}

// arePotentials reports whether the sums of two lists are at most the costs.
func arePotentials(u []int, w []int, costs [][]int) bool {
	for from := range u {
		for to := range w {
			if u[from]+w[to] > costs[from][to] {
				return false
			}
		}
	}
	return true
}
