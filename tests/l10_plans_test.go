package tests

import (
	"fmt"
	"slices"
	"testing"

	"loop.example/g01131/impl"
)

// checkPlan compares a plan with the one that it must be.
func checkPlan(t *testing.T, x pair, want [][]int) func(got [][]int, ok bool) {
	t.Helper()
	return func(got [][]int, ok bool) {
		t.Helper()
		if !ok || !sameTables(got, want) {
			t.Errorf("a plan of %v and %v = %v, %v; want %v", x.p, x.q, got, ok, want)
		}
	}
}

func checkNoPlan(t *testing.T) func(got [][]int, ok bool) {
	t.Helper()
	return func(got [][]int, ok bool) {
		t.Helper()
		if ok || len(got) > 0 {
			t.Errorf("a plan of bad arguments: %v, %v", got, ok)
		}
	}
}

// checkFound compares a report with the one that it must be.
func checkFound(t *testing.T, what string, want bool) func(got bool, ok bool) {
	t.Helper()
	return func(got bool, ok bool) {
		t.Helper()
		if !ok || got != want {
			t.Errorf("%s = %v, %v", what, got, ok)
		}
	}
}

// keepingPlan takes one unit after the other.
func keepingPlan(x pair) [][]int {
	has, lacks, plan := slices.Clone(x.p), slices.Clone(x.q), noUnits(len(x.p))
	for spot := range x.p {
		plan[spot][spot] = min(x.p[spot], x.q[spot])
		has[spot] -= plan[spot][spot]
		lacks[spot] -= plan[spot][spot]
	}
	isSome := func(n int) bool { return n > 0 }
	for from := slices.IndexFunc(has, isSome); from >= 0; from = slices.IndexFunc(has, isSome) {
		to := slices.IndexFunc(lacks, isSome)
		has[from]--
		lacks[to]--
		plan[from][to]++
	}
	return plan
}

// sortedPlan takes each unit to the place of the same number.
func sortedPlan(x pair) [][]int {
	places, plan := unitsIn(x.q), noUnits(len(x.p))
	for k, spot := range unitsIn(x.p) {
		plan[spot][places[k]]++
	}
	return plan
}

func TestPromise10KeepingPlans(t *testing.T) {
	for _, x := range manyPairs() {
		want := keepingPlan(x)
		checkPlan(t, x, want)(impl.KeepingPlan(x.p, x.q))
		checkFound(t, fmt.Sprint("IsPlan of ", x, want), true)(impl.IsPlan(x.p, x.q, want))
		distance, ok := impl.DistanceOf(x.p, x.q)
		checkCount(t, sumOf(x.p)-distance)(impl.KeptUnits(x.p, x.q, want))
		if !ok {
			t.Errorf("DistanceOf(%v, %v) fails", x.p, x.q)
		}
	}
	for _, x := range []struct {
		pair pair
		want [][]int
	}{
		{pair{[]int{2, 1, 1}, []int{1, 1, 2}}, [][]int{{1, 0, 1}, {0, 1, 0}, {0, 0, 1}}}, {pair{[]int{3, 0, 2, 0}, []int{0, 1, 1, 3}}, [][]int{{0, 1, 0, 2}, {0, 0, 0, 0}, {0, 0, 1, 1}, {0, 0, 0, 0}}},
		{pair{[]int{0, 2}, []int{2, 0}}, [][]int{{0, 0}, {2, 0}}}, {pair{[]int{mostUnits}, []int{mostUnits}}, [][]int{{mostUnits}}}, {pair{[]int{4, 4}, []int{4, 4}}, [][]int{{4, 0}, {0, 4}}}, {pair{[]int{1, 3, 0}, []int{2, 0, 2}}, [][]int{{1, 0, 0}, {1, 0, 2}, {0, 0, 0}}},
	} {
		checkPlan(t, x.pair, x.want)(impl.KeepingPlan(x.pair.p, x.pair.q))
	}
}

func TestPromise10SortedPlans(t *testing.T) {
	for _, x := range manyPairs() {
		want := sortedPlan(x)
		checkPlan(t, x, want)(impl.SortedPlan(x.p, x.q))
		checkPlan(t, x, turned(want))(impl.SortedPlan(x.q, x.p))
		checkFound(t, fmt.Sprint("IsPlan of ", x, want), true)(impl.IsPlan(x.p, x.q, want))
		earth, ok := impl.EarthDistance(x.p, x.q)
		if cost := costOf(want, costTable(len(x.p), apart)); !ok || cost != earth {
			t.Errorf("EarthDistance(%v, %v) is %d, and SortedPlan costs %d", x.p, x.q, earth, cost)
		}
	}
	for _, x := range []struct {
		pair pair
		want [][]int
	}{
		{pair{[]int{2, 1, 1}, []int{1, 1, 2}}, [][]int{{1, 1, 0}, {0, 0, 1}, {0, 0, 1}}}, {pair{[]int{0, 3, 0, 2}, []int{1, 0, 4, 0}}, [][]int{{0, 0, 0, 0}, {1, 0, 2, 0}, {0, 0, 0, 0}, {0, 0, 2, 0}}},
		{pair{[]int{1}, []int{1}}, [][]int{{1}}}, {pair{[]int{0, 2}, []int{2, 0}}, [][]int{{0, 0}, {2, 0}}}, {pair{[]int{2, 2}, []int{1, 3}}, [][]int{{1, 1}, {0, 2}}},
	} {
		checkPlan(t, x.pair, x.want)(impl.SortedPlan(x.pair.p, x.pair.q))
	}
}

func TestPromise10SortedPlansOfSpreadsAbove(t *testing.T) {
	counts := map[bool]int{}
	for _, x := range manyPairs() {
		above, okAbove := impl.IsAbove(x.p, x.q)
		plan, okPlan := impl.SortedPlan(x.q, x.p)
		upward, ok := impl.IsUpward(x.q, x.p, plan)
		if !ok || !okAbove || !okPlan || upward != above {
			t.Errorf("IsAbove(%v, %v) = %v, and %v is upward: %v, %v", x.p, x.q, above, plan, upward, ok)
		}
		counts[above]++
	}
	if counts[true] == 0 || counts[false] == 0 {
		t.Errorf("not both kinds of pairs: %v", counts)
	}
}

// isUpwardPlan and isCentredPlan tell it by the document's words.
func isUpwardPlan(plan [][]int) bool {
	for from, row := range plan {
		for to, units := range row {
			if units > 0 && to < from {
				return false
			}
		}
	}
	return true
}

func isCentredPlan(p []int, plan [][]int) bool {
	for spot, row := range plan {
		sum := 0
		for to, units := range row {
			sum += units * to
		}
		if p[spot] > 0 && sum != p[spot]*spot {
			return false
		}
	}
	return true
}

// keptIn counts the units of the diagonal.
func keptIn(plan [][]int) int {
	kept := 0
	for from, row := range plan {
		for to, units := range row {
			if from == to {
				kept += units
			}
		}
	}
	return kept
}

// All plans of small spreads: no plan keeps more units than the keeping plan, or costs less than the
// sorted one; there is an upward plan exactly for a spread above, and a centred one for wider
// spreads alone.
func TestPromise10AllPlans(t *testing.T) {
	upwards, centred := 0, 0
	for _, x := range smallPairs() {
		most, least, hasUpward, hasCentred := 0, mostCost*mostUnits, false, false
		plans(x.p, x.q, func(plan [][]int) {
			what := fmt.Sprint(" of ", x.p, x.q, plan)
			isUp, isCentre := isUpwardPlan(plan), isCentredPlan(x.p, plan)
			checkFound(t, "IsPlan"+what, true)(impl.IsPlan(x.p, x.q, plan))
			checkFound(t, "IsUpward"+what, isUp)(impl.IsUpward(x.p, x.q, plan))
			checkFound(t, "IsCentred"+what, isCentre)(impl.IsCentred(x.p, x.q, plan))
			checkCount(t, keptIn(plan))(impl.KeptUnits(x.p, x.q, plan))
			most, least = max(most, keptIn(plan)), min(least, costOf(plan, costTable(len(x.p), apart)))
			hasUpward, hasCentred = hasUpward || isUp, hasCentred || isCentre
		})
		checkCount(t, sumOf(x.p)-most)(impl.DistanceOf(x.p, x.q))
		checkCount(t, least)(impl.EarthDistance(x.p, x.q))
		checkFound(t, fmt.Sprint("IsAbove of ", x), hasUpward)(impl.IsAbove(x.q, x.p))
		if wider, ok := impl.IsWider(x.q, x.p); !ok || hasCentred && !wider {
			t.Errorf("IsWider(%v, %v) = %v, %v, but a plan is centred", x.q, x.p, wider, ok)
		}
		if hasUpward {
			upwards++
		}
		if hasCentred {
			centred++
		}
	}
	if upwards == 0 || centred == 0 {
		t.Errorf("%d pairs with an upward plan, %d with a centred one", upwards, centred)
	}
}

// Units go apart from a rolled spread, each time as many up as down: the plan is centred, and the
// spread behind it is wider, if no unit is changed.
func TestPromise10CentredPlans(t *testing.T) {
	counts := map[bool]int{}
	rolls := &dice{12}
	for range 600 {
		p := rolledSpread(rolls, rolls.between(1, mostSpots), rolls.between(1, mostUnits))
		q, plan := make([]int, len(p)), noUnits(len(p))
		for spot, units := range p {
			for ; units > 1 && rolls.below(6) > 0; units -= 2 {
				step := rolls.between(0, min(spot, len(p)-1-spot))
				plan[spot][spot-step]++
				plan[spot][spot+step]++
			}
			plan[spot][spot] += units
			if rolls.below(40) == 0 && units > 0 {
				plan[spot][spot]--
				plan[spot][rolls.below(len(p))]++
			}
		}
		for _, row := range plan {
			for to, units := range row {
				q[to] += units
			}
		}
		want := isCentredPlan(p, plan)
		checkFound(t, fmt.Sprint("IsCentred of ", p, q, plan), want)(impl.IsCentred(p, q, plan))
		if wider, ok := impl.IsWider(q, p); !ok || want && !wider {
			t.Errorf("IsWider(%v, %v) = %v, %v, but %v is centred", q, p, wider, ok, plan)
		}
		counts[want]++
	}
	if counts[true] == 0 || counts[false] == 0 {
		t.Errorf("not both kinds of plans: %v", counts)
	}
}

// Drifts of two spots that are opposite do not make a plan centred.
func TestPromise10KnownPlans(t *testing.T) {
	p, q := []int{1, 1}, []int{1, 1}
	for _, x := range []struct {
		plan            [][]int
		upward, centred bool
		kept            int
	}{
		{[][]int{{1, 0}, {0, 1}}, true, true, 2}, {[][]int{{0, 1}, {1, 0}}, false, false, 0},
	} {
		what := fmt.Sprint(" of ", p, q, x.plan)
		checkFound(t, "IsUpward"+what, x.upward)(impl.IsUpward(p, q, x.plan))
		checkFound(t, "IsCentred"+what, x.centred)(impl.IsCentred(p, q, x.plan))
		checkCount(t, x.kept)(impl.KeptUnits(p, q, x.plan))
	}
	p, q = []int{0, 2, 0}, []int{1, 0, 1}
	checkFound(t, "IsCentred", true)(impl.IsCentred(p, q, [][]int{{0, 0, 0}, {1, 0, 1}, {0, 0, 0}}))
	checkFound(t, "IsUpward", false)(impl.IsUpward(p, q, [][]int{{0, 0, 0}, {1, 0, 1}, {0, 0, 0}}))
	checkFound(t, "IsCentred", false)(impl.IsCentred(q, p, [][]int{{0, 1, 0}, {0, 0, 0}, {0, 1, 0}}))
	checkFound(t, "IsCentred", true)(impl.IsCentred([]int{1}, []int{1}, [][]int{{1}}))
	checkFound(t, "IsUpward", true)(impl.IsUpward([]int{mostUnits}, []int{mostUnits}, [][]int{{mostUnits}}))
	checkCount(t, mostUnits)(impl.KeptUnits([]int{mostUnits}, []int{mostUnits}, [][]int{{mostUnits}}))
	checkFound(t, "IsUpward", true)(impl.IsUpward([]int{1, 0}, []int{0, 1}, [][]int{{0, 1}, {0, 0}}))
	checkFound(t, "IsUpward", false)(impl.IsUpward([]int{0, 1}, []int{1, 0}, [][]int{{0, 0}, {1, 0}}))
}

// checkNoPlanOf checks that functions of plans fail for a table that is none.
func checkNoPlanOf(t *testing.T, p []int, q []int, table [][]int) {
	t.Helper()
	checkNoCount(t)(impl.KeptUnits(p, q, table))
	checkNoCount(t)(impl.PlanCost(p, q, table, noUnits(min(len(p), mostSpots+1))))
	if is, ok := impl.IsUpward(p, q, table); is || ok {
		t.Errorf("IsUpward of %.9v, %.9v, %.99s = %v, %v", p, q, fmt.Sprint(table), is, ok)
	}
	if is, ok := impl.IsCentred(p, q, table); is || ok {
		t.Errorf("IsCentred of %.9v, %.9v, %.99s = %v, %v", p, q, fmt.Sprint(table), is, ok)
	}
	if is, ok := impl.IsPlan(p, q, table); is || ok != areAlike(p, q) {
		t.Errorf("IsPlan of %.9v, %.9v, %.99s = %v, %v", p, q, fmt.Sprint(table), is, ok)
	}
}

func TestPromise10NoPlans(t *testing.T) {
	for i, x := range slices.Concat(limitPairs(), smallPairs(), rolledPairs(80)) {
		for k, plan := range [][][]int{sortedPlan(x), keepingPlan(x)} {
			if (i+k)%5 == 0 || i < 50 {
				for _, table := range badPlans(x.p, x.q, plan) {
					checkNoPlanOf(t, x.p, x.q, table)
				}
			}
		}
	}
	// The sums of these leave int, and come back.
	ones := []int{1, 1, 1}
	const most, half = 1<<63 - 1, 1 << 62
	for _, table := range [][][]int{
		{{most, most, 3}, {most, 3, most}, {3, most, most}}, {{most, -most, 1}, {-most, most, 1}, {1, 1, -1}}, {{half, half, -2*half + 1}, {half, -2*half + 1, half}, {-2*half + 1, half, half}},
	} {
		checkNoPlanOf(t, ones, ones, table)
	}
	checkNoPlanOf(t, []int{1, 1, 1, 1, 1}, []int{1, 1, 1, 1, 1}, [][]int{{half, half, half, half, 1}, {half, half, half, 1, half}, {half, half, 1, half, half}, {half, 1, half, half, half}, {1, half, half, half, half}})
}

func TestPromise10NoPairsForPlans(t *testing.T) {
	for _, x := range noPairs() {
		for _, x := range []pair{x, {x.q, x.p}} {
			checkNoPlan(t)(impl.KeepingPlan(x.p, x.q))
			checkNoPlan(t)(impl.SortedPlan(x.p, x.q))
			for _, table := range [][][]int{nil, {{1}}, {x.p}, {x.q}, {{1, 0}, {0, 1}}, noUnits(min(len(x.p), mostSpots+1))} {
				checkNoPlanOf(t, x.p, x.q, table)
			}
		}
	}
	// Tables with the sums of spreads that are not alike, or that are none.
	checkNoPlanOf(t, []int{2, 1}, []int{3}, [][]int{{2}, {1}})
	checkNoPlanOf(t, []int{3}, []int{2, 1}, [][]int{{2, 1}})
	checkNoPlanOf(t, []int{0}, []int{0}, [][]int{{0}})
	checkNoPlanOf(t, []int{mostUnits, 1}, []int{mostUnits, 1}, [][]int{{mostUnits, 0}, {0, 1}})
	checkNoPlanOf(t, nil, nil, nil)
	nine := slices.Repeat([]int{1}, mostSpots+1)
	checkNoPlanOf(t, nine, nine, costTable(mostSpots+1, func(from int, to int) int { return 1 - isMove(from, to) }))
}
