package tests

import (
	"fmt"
	"math"
	"slices"
	"testing"

	"loop.example/g01131/impl"
)

// load is what functions of spreads may be called with.
type load struct {
	p, q, u, w  []int
	plan, costs [][]int
	spot        int
}

// spreadCall calls one function of spreads, and returns its results but for the last one, and this;
// isValid tells whether the call succeeds.
type spreadCall struct {
	name    string
	call    func(x load) (any, bool)
	isValid func(x load) bool
}

// spreadCalls returns a call of each function of chapter 10 that has a spread as its argument.
func spreadCalls() []spreadCall {
	alike := func(x load) bool { return areAlike(x.p, x.q) }
	havePlan := func(x load) bool { return alike(x) && isPlan(x.p, x.q, x.plan) }
	haveCosts := func(x load) bool { return alike(x) && areCosts(x.costs, len(x.p)) }
	isNumber := func(list []int, size int) bool {
		return len(list) == size && areFrom(list, -mostPotential, mostPotential)
	}
	return []spreadCall{
		{"IsSpread", func(x load) (any, bool) { ok := impl.IsSpread(x.p); return ok, ok }, func(x load) bool { return isSpread(x.p) }},
		{"AreAlike", func(x load) (any, bool) { return anyOf(impl.AreAlike(x.p, x.q)) }, func(x load) bool { return isSpread(x.p) && isSpread(x.q) }},
		{"DistanceOf", func(x load) (any, bool) { return anyOf(impl.DistanceOf(x.p, x.q)) }, alike},
		{"IsPlan", func(x load) (any, bool) { return anyOf(impl.IsPlan(x.p, x.q, x.plan)) }, alike},
		{"KeptUnits", func(x load) (any, bool) { return anyOf(impl.KeptUnits(x.p, x.q, x.plan)) }, havePlan},
		{"KeepingPlan", func(x load) (any, bool) { return anyOf(impl.KeepingPlan(x.p, x.q)) }, alike},
		{"SortedPlan", func(x load) (any, bool) { return anyOf(impl.SortedPlan(x.p, x.q)) }, alike},
		{"IsAbove", func(x load) (any, bool) { return anyOf(impl.IsAbove(x.p, x.q)) }, alike},
		{"IsUpward", func(x load) (any, bool) { return anyOf(impl.IsUpward(x.p, x.q, x.plan)) }, havePlan},
		{"IsWider", func(x load) (any, bool) { return anyOf(impl.IsWider(x.p, x.q)) }, alike},
		{"IsCentred", func(x load) (any, bool) { return anyOf(impl.IsCentred(x.p, x.q, x.plan)) }, havePlan},
		{"MoveApart", func(x load) (any, bool) { return anyOf(impl.MoveApart(x.p, x.spot)) }, func(x load) bool {
			return isSpread(x.p) && x.spot > 0 && x.spot < len(x.p)-1 && x.p[x.spot] > 1
		}},
		{"EarthDistance", func(x load) (any, bool) { return anyOf(impl.EarthDistance(x.p, x.q)) }, alike},
		{"LeastCost", func(x load) (any, bool) { return anyOf(impl.LeastCost(x.p, x.q, x.costs)) }, haveCosts},
		{"PlanCost", func(x load) (any, bool) { return anyOf(impl.PlanCost(x.p, x.q, x.plan, x.costs)) }, func(x load) bool { return havePlan(x) && haveCosts(x) }},
		{"ArePotentials", func(x load) (any, bool) { return anyOf(impl.ArePotentials(x.p, x.q, x.u, x.w, x.costs)) }, func(x load) bool {
			return haveCosts(x) && isNumber(x.u, len(x.p)) && isNumber(x.w, len(x.q))
		}},
		{"MixSpreads", func(x load) (any, bool) { return anyOf(impl.MixSpreads(x.p, x.q)) }, func(x load) bool { return alike(x) && sumOf(x.p) <= mostUnits/2 }},
	}
}

// largestCalls returns a call of each other function of chapter 10.
func largestCalls() []treeCall {
	type tree = impl.Tree
	return []treeCall{
		{"LargestMean", func(t tree, a, b []int, n int) (any, bool) { return anyOf(impl.LargestMean(t, a)) }},
		{"LargestChance", func(t tree, a, b []int, n int) (any, bool) { return anyOf(impl.LargestChance(t, a, n)) }},
	}
}

// spotEdges returns numbers that are spots, and others.
func spotEdges() []int {
	return []int{0, 1, 2, 6, 7, mostSpots, mostSpots + 1, -1, math.MaxInt, math.MaxInt - 1, math.MinInt, math.MinInt + 1}
}

// edgeSpreads returns lists of all kinds, with spreads at the limits and just beyond them.
func edgeSpreads() [][]int {
	lists := slices.Concat(oddLists(), badSpreads(), [][]int{{2}, {mostUnits}, {0, 1}, {0, 2, 0}, {0, 0, 2, 0}, {1, 1, 0}, {0, mostUnits, 0}, {5, 5, 5, 5, 5, 5, 5, 5}})
	return append(lists, []int{0, 0, 0, 0, 0, 0, 2, 0}, []int{0, 0, 0, 0, 0, 0, 0, 1})
}

// edgeTables returns tables of all kinds.
func edgeTables() [][][]int {
	tables := [][][]int{nil, {}, {nil}, oddLists(), make([][]int, 1<<12), noUnits(1), noUnits(2), noUnits(3), noUnits(mostSpots), noUnits(mostSpots + 1), {{2}}, {{0, 1}, {1, 0}}, {{2, 0}, {0, 0}}, {{0, 0}, {0, mostUnits}}}
	for _, list := range edgeSpreads() {
		if len(list) <= mostSpots+1 {
			tables = append(tables, [][]int{list}, slices.Repeat([][]int{list}, len(list)))
		}
	}
	for _, x := range limitPairs() {
		tables = append(tables, sortedPlan(x), keepingPlan(x))
	}
	return append(tables, badCosts(3)...)
}

// checkLoad makes all calls with the same arguments. A panic in a call fails the test, as does a call
// that does not return.
func checkLoad(t *testing.T, x load) {
	t.Helper()
	for _, call := range spreadCalls() {
		result, ok := call.call(x)
		if ok != call.isValid(x) || !ok && !isNothing(result) {
			t.Fatalf("%s of %.99s = %v, %v", call.name, fmt.Sprint(x), result, ok)
		}
	}
}

func TestPromise13SpreadsOfAllKinds(t *testing.T) {
	lists, tables, spots := edgeSpreads(), edgeTables(), spotEdges()
	for i, p := range lists {
		for k, q := range lists {
			x := load{p: p, q: q, u: lists[k], w: lists[i], spot: spots[(i+k)%len(spots)]}
			for n := range 4 {
				x.plan, x.costs = tables[(i+7*k+n)%len(tables)], tables[(5*i+k+3*n)%len(tables)]
				checkLoad(t, x)
			}
		}
		for _, spot := range spots {
			checkLoad(t, load{p: p, spot: spot})
		}
	}
}

// These pairs are alike, so that tables and lists alone tell whether a call fails.
func TestPromise13TablesOfSpreadsOfAllKinds(t *testing.T) {
	lists, tables := edgeSpreads(), edgeTables()
	for i, x := range append(limitPairs(), rolledPairs(48)...) {
		spots := len(x.p)
		for k, table := range append(tables, badPlans(x.p, x.q, sortedPlan(x))...) {
			checkLoad(t, load{p: x.p, q: x.q, u: lists[(i+k)%len(lists)], w: make([]int, spots), plan: table, costs: noUnits(spots)})
			checkLoad(t, load{p: x.p, q: x.q, u: x.p, w: lists[(i+k)%len(lists)], plan: sortedPlan(x), costs: table})
		}
	}
}

func TestPromise13LargestOfAllKinds(t *testing.T) {
	checkCalls(t, largestCalls())
}

// checkLoadKept makes each call twice with arguments that must stay as they are.
func checkLoadKept(t *testing.T, x load) {
	t.Helper()
	for _, call := range spreadCalls() {
		lists, listRooms := roomyLists([][]int{x.p, x.q, x.u, x.w})
		plan, planRooms := roomyLists(x.plan)
		costs, costRooms := roomyLists(x.costs)
		given := load{lists[0], lists[1], lists[2], lists[3], plan, costs, x.spot}
		rooms := slices.Concat(listRooms, planRooms, costRooms)
		kept, rows := cloneTable(rooms), cloneTable(slices.Concat(plan[:len(plan)+1], costs[:len(costs)+1]))
		checkSame(t, fmt.Sprint(call.name, " of ", x), func() (any, bool) { return call.call(given) })
		if !sameTables(rooms, kept) || !sameTables(slices.Concat(plan[:len(plan)+1], costs[:len(costs)+1]), rows) {
			t.Fatalf("%s of %v changes an argument or shares its memory", call.name, x)
		}
	}
}

func TestPromise13SpreadsStayAsTheyAre(t *testing.T) {
	rolls := &dice{19}
	pairs := slices.Concat(limitPairs(), rolledPairs(96), widePairs(24), unlikePairs(), []pair{{nil, []int{1}}, {[]int{1, -1}, []int{0, 0}}, {[]int{mostUnits, 1}, []int{1, mostUnits}}})
	for _, x := range pairs {
		good := x
		if !areAlike(x.p, x.q) {
			good = pair{[]int{2, 1}, []int{0, 3}}
		}
		costs := someCosts(rolls, len(good.p))
		for i, plan := range append(badPlans(good.p, good.q, sortedPlan(good))[:4], sortedPlan(good), keepingPlan(good), nil) {
			u, w := matched(good.p, good.q, costs[i])
			checkLoadKept(t, load{x.p, x.q, u, w, plan, costs[i], i})
		}
		checkLoadKept(t, load{x.p, x.q, x.p, x.q, sortedPlan(good), [][]int{{mostCost + 1}}, len(x.p) - 2})
	}
}

// One list may be both spreads and all rows of a table, and one table may be plan and costs.
func TestPromise13SpreadsThatAreOneList(t *testing.T) {
	for _, p := range [][]int{{1}, {mostUnits}, {1, 1}, {0, 2, 1}, {1, 2, 3, 4}, {0, 0, 3, 0}, {5, 5, 5, 5, 5, 5, 5, 5}, {mostUnits, 1}} {
		list, whole := roomy(p)
		kept := slices.Clone(whole)
		table := slices.Repeat([][]int{list}, len(p))
		for _, call := range spreadCalls() {
			for spot := range p {
				checkSame(t, fmt.Sprint(call.name, " of ", p), func() (any, bool) {
					return call.call(load{list, list, list, list, table, table, spot})
				})
			}
			if !slices.Equal(whole, kept) {
				t.Fatalf("%s of %v changes its argument", call.name, p)
			}
		}
	}
}

// Each row of a plan is written to, the room behind its end included, and the others stay.
func TestPromise13RowsOfPlansAreTheirOwn(t *testing.T) {
	for _, x := range append(limitPairs(), rolledPairs(48)...) {
		for _, maker := range []func(p []int, q []int) ([][]int, bool){impl.KeepingPlan, impl.SortedPlan} {
			plan, ok := maker(x.p, x.q)
			for i, row := range plan {
				want := cloneTable(plan)
				fill(row)
				fill(want[i])
				if !ok || !sameTables(plan, want) {
					t.Errorf("the row %d of a plan of %v and %v shares memory: %v", i, x.p, x.q, plan)
				}
			}
		}
	}
}

func TestPromise13LargestStayAsTheyAre(t *testing.T) {
	rolls := &dice{20}
	for _, tree := range append(limitTrees(), treeOf([]int{-1, 0, 0, 1, 1}, 2, 1, 1), treeOf([]int{-1, 0, 2}, 30)) {
		lists := [][]int{nil, make([]int, len(tree.Parents)), slices.Repeat([]int{-1}, len(tree.Parents)), {3, 3, 3, 1, 5}}
		if impl.IsTree(tree) {
			lists = append(lists, gainfulLists(rolls, tree)...)
		}
		for _, call := range largestCalls() {
			for _, list := range lists {
				for _, level := range []int{-1, 0, 1, 4, mostPay, mostPay + 1} {
					checkKept(t, call, tree, list, nil, level)
				}
			}
		}
	}
}
