package tests

import (
	"fmt"
	"slices"
	"testing"

	"loop.example/g01131/impl"
)

// All plans of small spreads: none of them costs less, and one costs just as much.
func TestPromise10LeastCostsOfAllPlans(t *testing.T) {
	rolls := &dice{13}
	for _, x := range smallPairs() {
		for _, costs := range someCosts(rolls, len(x.p)) {
			least := mostCost*mostUnits + 1
			plans(x.p, x.q, func(plan [][]int) {
				cost := costOf(plan, costs)
				checkCount(t, cost)(impl.PlanCost(x.p, x.q, plan, costs))
				least = min(least, cost)
			})
			checkCount(t, least)(impl.LeastCost(x.p, x.q, costs))
		}
	}
}

// Potentials prove that no plan costs less, and plans that none of them is too great.
func TestPromise10LeastCostsByPotentials(t *testing.T) {
	rolls := &dice{14}
	for _, x := range append(limitPairs(), rolledPairs(160)...) {
		for _, costs := range someCosts(rolls, len(x.p)) {
			u, w := matched(x.p, x.q, costs)
			checkFound(t, fmt.Sprint("ArePotentials of ", x, u, w, costs), true)(impl.ArePotentials(x.p, x.q, u, w, costs))
			checkCount(t, boundBy(x, u, w))(impl.LeastCost(x.p, x.q, costs))
			for _, plan := range [][][]int{sortedPlan(x), keepingPlan(x)} {
				cost := costOf(plan, costs)
				checkCount(t, cost)(impl.PlanCost(x.p, x.q, plan, costs))
				if cost < boundBy(x, u, w) {
					t.Errorf("%v costs %d with %v, less than %v and %v tell", plan, cost, costs, u, w)
				}
			}
		}
	}
}

// For some costs it is known which plan is the cheapest one.
func TestPromise10LeastCostsOfDistances(t *testing.T) {
	for _, x := range slices.Concat(limitPairs(), smallPairs(), rolledPairs(200), widePairs(100)) {
		spots, size := len(x.p), sumOf(x.p)
		earth, _ := impl.EarthDistance(x.p, x.q)
		checkCount(t, earth)(impl.LeastCost(x.p, x.q, costTable(spots, apart)))
		sorted, _ := impl.SortedPlan(x.p, x.q)
		checkCount(t, earth)(impl.PlanCost(x.p, x.q, sorted, costTable(spots, apart)))
		squares := costTable(spots, apartSquared)
		checkCount(t, costOf(sorted, squares))(impl.LeastCost(x.p, x.q, squares))
		distance, _ := impl.DistanceOf(x.p, x.q)
		checkCount(t, distance)(impl.LeastCost(x.p, x.q, costTable(spots, isMove)))
		checkCount(t, 0)(impl.LeastCost(x.p, x.q, noUnits(spots)))
		all := costTable(spots, func(from int, to int) int { return mostCost })
		checkCount(t, mostCost*size)(impl.LeastCost(x.p, x.q, all))
		checkCount(t, mostCost*size)(impl.PlanCost(x.p, x.q, sorted, all))
		// The costs of rows and columns alone tell the cost of each plan.
		sums := costTable(spots, func(from int, to int) int { return 5*from + 7*to })
		cost := 5*boundBy(x, facesOf(spots), make([]int, spots)) + 7*boundBy(x, make([]int, spots), facesOf(spots))
		checkCount(t, cost)(impl.LeastCost(x.p, x.q, sums))
	}
}

func TestPromise10KnownCosts(t *testing.T) {
	line := [][]int{{0, 1, 2}, {1, 0, 1}, {2, 1, 0}}
	checkCount(t, 2)(impl.LeastCost([]int{2, 1, 1}, []int{1, 1, 2}, line))
	checkCount(t, 2)(impl.PlanCost([]int{2, 1, 1}, []int{1, 1, 2}, [][]int{{1, 1, 0}, {0, 0, 1}, {0, 0, 1}}, line))
	checkCount(t, mostCost*mostUnits)(impl.LeastCost([]int{mostUnits}, []int{mostUnits}, [][]int{{mostCost}}))
	checkCount(t, 0)(impl.LeastCost([]int{1}, []int{1}, [][]int{{0}}))
	checkCount(t, mostCost)(impl.PlanCost([]int{1}, []int{1}, [][]int{{1}}, [][]int{{mostCost}}))
	// Rows are spots of the first spread.
	checkCount(t, 9)(impl.LeastCost([]int{1, 0}, []int{0, 1}, [][]int{{1, 9}, {4, 2}}))
	checkCount(t, 4)(impl.LeastCost([]int{0, 1}, []int{1, 0}, [][]int{{1, 9}, {4, 2}}))
	checkCount(t, 9)(impl.PlanCost([]int{1, 0}, []int{0, 1}, [][]int{{0, 1}, {0, 0}}, [][]int{{1, 9}, {4, 2}}))
	// To stay costs more than to go around.
	checkCount(t, 0)(impl.LeastCost([]int{1, 1, 1}, []int{1, 1, 1}, [][]int{{9, 0, 9}, {9, 9, 0}, {0, 9, 9}}))
	checkCount(t, 12)(impl.LeastCost([]int{2, 2}, []int{2, 2}, [][]int{{0, 1}, {5, mostCost}}))
	// The unit that would cost least must not take its cheapest place.
	checkCount(t, 3)(impl.LeastCost([]int{1, 1}, []int{1, 1}, [][]int{{0, 1}, {2, 50}}))
	// Three units must go on until the last one is at its place.
	checkCount(t, 4)(impl.LeastCost([]int{1, 1, 1, 1}, []int{1, 1, 1, 1}, [][]int{{0, 1, 99, 99}, {0, 0, 1, 99}, {99, 0, 0, 1}, {1, 99, 99, 99}}))
}

// rolledOrder returns the numbers below n in some order.
func rolledOrder(rolls *dice, n int) []int {
	order := facesOf(n)
	for i := range order {
		k := rolls.below(i + 1)
		order[i], order[k] = order[k], order[i]
	}
	return order
}

// Each unit is at its cheapest place but one, and all of them must go on by one so that it is not at
// its dearest one; the order of spots must not matter.
func TestPromise10LongExchanges(t *testing.T) {
	rolls := &dice{21}
	for spots := 2; spots <= mostSpots; spots++ {
		ones := slices.Repeat([]int{1}, spots)
		costs := costTable(spots, func(from int, to int) int {
			switch to {
			case from:
				return mostCost * (from / (spots - 1))
			case (from + spots - 1) % spots:
				return 1
			}
			return mostCost
		})
		checkCount(t, spots)(impl.LeastCost(ones, ones, costs))
		for range 300 {
			rows, columns := rolledOrder(rolls, spots), rolledOrder(rolls, spots)
			other := costTable(spots, func(from int, to int) int { return costs[rows[from]][columns[to]] })
			checkCount(t, spots)(impl.LeastCost(ones, ones, other))
		}
	}
}

func TestPromise10Potentials(t *testing.T) {
	counts := map[bool]int{}
	rolls := &dice{15}
	for _, x := range slices.Concat(limitPairs(), rolledPairs(240)) {
		for _, costs := range someCosts(rolls, len(x.p)) {
			least, ok := impl.LeastCost(x.p, x.q, costs)
			u, w := matched(x.p, x.q, costs)
			for range 4 {
				want := arePotentials(u, w, costs)
				checkFound(t, fmt.Sprint("ArePotentials of ", x, u, w, costs), want)(impl.ArePotentials(x.p, x.q, u, w, costs))
				if want && (!ok || boundBy(x, u, w) > least) {
					t.Errorf("LeastCost(%v, %v, %v) = %d, %v; potentials %v and %v", x.p, x.q, costs, least, ok, u, w)
				}
				counts[want]++
				u[rolls.below(len(u))] += rolls.between(-2, 1)
				w[rolls.below(len(w))] += rolls.between(-2, 1)
			}
		}
	}
	if counts[true] == 0 || counts[false] == 0 {
		t.Errorf("not both kinds of potentials: %v", counts)
	}
}

func TestPromise10KnownPotentials(t *testing.T) {
	one, two := []int{1}, []int{1, 1}
	for _, x := range []struct {
		u, w []int
		cost int
		want bool
	}{
		{[]int{0}, []int{0}, 0, true}, {[]int{1}, []int{0}, 0, false}, {[]int{0}, []int{1}, 0, false}, {[]int{-1}, []int{1}, 0, true}, {[]int{mostCost}, []int{0}, mostCost, true}, {[]int{mostCost}, []int{1}, mostCost, false},
		{[]int{-mostPotential}, []int{mostPotential}, 0, true}, {[]int{mostPotential}, []int{-mostPotential}, 0, true}, {[]int{mostPotential}, []int{-mostPotential + 1}, 0, false}, {[]int{mostPotential}, []int{mostPotential}, mostCost, false},
		{[]int{-mostPotential}, []int{-mostPotential}, 0, true}, {[]int{mostPotential}, []int{-900}, mostCost, true}, {[]int{mostPotential}, []int{-899}, mostCost, false},
	} {
		checkFound(t, fmt.Sprint("ArePotentials of ", x), x.want)(impl.ArePotentials(one, one, x.u, x.w, [][]int{{x.cost}}))
	}
	// Each pair counts, also of spots without units.
	costs := [][]int{{0, 3}, {5, 1}}
	for _, x := range []struct {
		u, w []int
		want bool
	}{
		{[]int{0, 1}, []int{0, 0}, true}, {[]int{0, 2}, []int{0, 0}, false}, {[]int{-2, 0}, []int{2, 1}, true}, {[]int{-2, 0}, []int{3, 1}, false}, {[]int{2, 0}, []int{-2, 1}, true}, {[]int{3, 0}, []int{-3, 1}, false}, {[]int{-9, 7}, []int{-1, -6}, false}, {[]int{-9, 6}, []int{-1, -5}, true},
	} {
		for _, p := range [][]int{two, {2, 0}, {0, 2}} {
			for _, q := range [][]int{two, {2, 0}, {0, 2}} {
				checkFound(t, fmt.Sprint("ArePotentials of ", p, q, x), x.want)(impl.ArePotentials(p, q, x.u, x.w, costs))
			}
		}
	}
}

func checkNoPotentials(t *testing.T, x pair, u []int, w []int, costs [][]int) {
	t.Helper()
	if are, ok := impl.ArePotentials(x.p, x.q, u, w, costs); are || ok {
		t.Errorf("ArePotentials of %.9v, %.9v, %.9v, %.9v, %.99s = %v, %v", x.p, x.q, u, w, fmt.Sprint(costs), are, ok)
	}
}

func TestPromise10OtherLists(t *testing.T) {
	for _, x := range slices.Concat(limitPairs(), rolledPairs(40)) {
		spots := len(x.p)
		for _, bad := range append(badNumbers(spots, mostPotential), nil, append(make([]int, spots-1), 1000)) {
			checkNoPotentials(t, x, bad, make([]int, spots), noUnits(spots))
			checkNoPotentials(t, x, make([]int, spots), bad, noUnits(spots))
			checkNoPotentials(t, x, bad, slices.Repeat([]int{-mostPotential}, spots), noUnits(spots))
			checkNoPotentials(t, x, bad, bad, noUnits(spots))
		}
	}
}

func TestPromise10NoCosts(t *testing.T) {
	for i, x := range slices.Concat(limitPairs(), rolledPairs(40)) {
		plan, low := sortedPlan(x), slices.Repeat([]int{-mostPotential}, len(x.p))
		for _, costs := range badCosts(len(x.p)) {
			checkNoCount(t)(impl.LeastCost(x.p, x.q, costs))
			checkNoCount(t)(impl.PlanCost(x.p, x.q, plan, costs))
			checkNoPotentials(t, x, low, low, costs)
		}
		if i%4 == 0 {
			for _, table := range badPlans(x.p, x.q, plan) {
				checkNoCount(t)(impl.PlanCost(x.p, x.q, table, noUnits(len(x.p))))
			}
		}
	}
}

func TestPromise10NoPairsForCosts(t *testing.T) {
	for _, x := range noPairs() {
		for _, x := range []pair{x, {x.q, x.p}} {
			spots := []int{min(len(x.p), mostSpots+1), min(len(x.q), mostSpots+1)}
			for _, size := range spots {
				checkNoCount(t)(impl.LeastCost(x.p, x.q, noUnits(size)))
				checkNoPotentials(t, x, make([]int, spots[0]), make([]int, spots[1]), noUnits(size))
				checkNoPotentials(t, x, make([]int, size), make([]int, size), noUnits(size))
			}
			// A row for each spot of the first one, and a number for each spot of the second one.
			table := slices.Repeat([][]int{make([]int, spots[1])}, spots[0])
			checkNoCount(t)(impl.LeastCost(x.p, x.q, table))
			checkNoCount(t)(impl.PlanCost(x.p, x.q, table, table))
			checkNoPotentials(t, x, make([]int, spots[0]), make([]int, spots[1]), table)
		}
	}
}
