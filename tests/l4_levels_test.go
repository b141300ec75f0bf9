package tests

import (
	"math"
	"math/big"
	"slices"
	"testing"

	"loop.example/g01131/impl"
)

func TestPromise4ThresholdRule(t *testing.T) {
	for _, g := range someGames() {
		for _, payments := range somePayments(g.tree) {
			for _, level := range append(levelsOf(payments), mostPay, -mostPay) {
				want := g.firstWhere(func(x int) bool { return payments[x] >= level })
				if got, ok := impl.ThresholdRule(g.tree, payments, level); !ok || !slices.Equal(got, want) {
					t.Errorf("ThresholdRule(%v, %v, %d) = %v, %v", g.tree, payments, level, got, ok)
				}
			}
			// No payment is less than the first level, and none reaches the second one.
			checkList(t, []int{0})(impl.ThresholdRule(g.tree, payments, -mostPay-1))
			checkList(t, g.ends)(impl.ThresholdRule(g.tree, payments, mostPay+1))
		}
	}
}

// bestLevel tries all levels in their order.
func (g game) bestLevel(payments []int) (int, int) {
	best, most := 0, math.MinInt
	for level := -mostPay; level <= mostPay; level++ {
		total := 0
		for i, end := range g.ends {
			way := g.ways[i]
			k := 0
			for k < len(way)-1 && payments[way[k]] < level {
				k++
			}
			total += g.tree.Weights[end] * payments[way[k]]
		}
		if total > most {
			best, most = level, total
		}
	}
	return best, most
}

func TestPromise4BestLevel(t *testing.T) {
	for _, g := range someGames() {
		for _, payments := range somePayments(g.tree) {
			level, most := g.bestLevel(payments)
			got, mean, ok := impl.BestLevel(g.tree, payments)
			if !ok || got != level || !isFraction(mean, rat(most, g.sums[0])) {
				t.Errorf("BestLevel(%v, %v) = %d, %v, %v; want %d", g.tree, payments, got, mean, ok, level)
			}
			rule, _ := impl.ThresholdRule(g.tree, payments, got)
			if again, ok := impl.RuleMean(g.tree, payments, rule); !ok || again != mean {
				t.Errorf("BestLevel(%v, %v) has the mean %v, its rule %v", g.tree, payments, mean, again)
			}
		}
	}
}

func TestPromise4BestLevelsAtTheLimits(t *testing.T) {
	chain := treeOf([]int{-1, 0, 1}, 2)
	for _, x := range []struct {
		payments []int
		level    int
		mean     int
	}{
		{[]int{-999, -999, -999}, -999, -999}, {[]int{-999, -998, -999}, -998, -998}, {[]int{999, 999, 999}, -999, 999},
		{[]int{998, 997, 999}, 999, 999}, {[]int{997, 998, 999}, 999, 999}, {[]int{998, 999, 998}, 999, 999}, {[]int{999, 998, 999}, -999, 999},
		{[]int{-999, 999, 0}, -998, 999}, {[]int{4, -7, 4}, -999, 4}, {[]int{4, 9, 9}, 5, 9}, {[]int{5, 4, 6}, 6, 6}, {[]int{6, 5, 4}, -999, 6},
	} {
		level, mean, ok := impl.BestLevel(chain, x.payments)
		if !ok || level != x.level || mean != [2]int{x.mean, 1} {
			t.Errorf("BestLevel(%v) = %d, %v, %v", x.payments, level, mean, ok)
		}
	}
}

func TestPromise4LookAhead(t *testing.T) {
	for _, g := range someGames() {
		for _, payments := range somePayments(g.tree) {
			var worth []*big.Rat
			for _, payment := range payments {
				worth = append(worth, rat(payment, 1))
			}
			for k := 0; k <= mostLook; k++ {
				want := g.firstWhere(func(x int) bool { return worth[x].Cmp(rat(payments[x], 1)) == 0 })
				if got, ok := impl.LookAhead(g.tree, payments, k); !ok || !slices.Equal(got, want) {
					t.Errorf("LookAhead(%v, %v, %d) = %v, %v; want %v", g.tree, payments, k, got, ok, want)
				}
				next := make([]*big.Rat, len(worth))
				for x := range next {
					next[x] = g.worthAt(payments, worth, x)
				}
				worth = next
			}
			best, _ := impl.BestRule(g.tree, payments)
			checkList(t, best)(impl.LookAhead(g.tree, payments, mostLook))
			checkList(t, []int{0})(impl.LookAhead(g.tree, payments, 0))
			for _, k := range []int{-1, mostLook + 1, math.MaxInt, math.MinInt} {
				if got, ok := impl.LookAhead(g.tree, payments, k); ok || len(got) > 0 {
					t.Errorf("LookAhead(%v, %v, %d) = %v, %v", g.tree, payments, k, got, ok)
				}
			}
		}
	}
}

// Only the end of the longest way is worth going to, so that each step counts.
func TestPromise4LookAheadOnTheLongestWay(t *testing.T) {
	chain := limitTrees()[2]
	payments := make([]int, mostNodes)
	for x := range payments {
		payments[x] = -x
	}
	payments[mostNodes-1] = 1
	for k := range mostLook + 1 {
		want := []int{0}
		if k >= mostNodes-1 {
			want = []int{mostNodes - 1}
		}
		checkList(t, want)(impl.LookAhead(chain, payments, k))
	}
}

func TestPromise4CostlySteps(t *testing.T) {
	counts := map[bool]int{}
	for _, g := range someGames() {
		for _, payments := range somePayments(g.tree) {
			for _, cost := range []int{0, 1, 2, 39, 40, 41, 43, 44, 86, 87, 998, mostPay} {
				var want []int
				for x, payment := range payments {
					want = append(want, payment-cost*depthOf(g.tree, x))
				}
				areFit := areFrom(want, -mostPay, mostPay)
				counts[areFit]++
				got, ok := impl.CostlySteps(g.tree, payments, cost)
				if ok != areFit || ok && !slices.Equal(got, want) || !ok && len(got) > 0 {
					t.Errorf("CostlySteps(%v, %v, %d) = %v, %v; want %v", g.tree, payments, cost, got, ok, want)
				}
			}
			for _, cost := range []int{-1, mostPay + 1, math.MaxInt, math.MinInt} {
				if got, ok := impl.CostlySteps(g.tree, payments, cost); ok || len(got) > 0 {
					t.Errorf("CostlySteps(%v, %v, %d) = %v, %v", g.tree, payments, cost, got, ok)
				}
			}
		}
	}
	if counts[true] == 0 || counts[false] == 0 {
		t.Errorf("not both kinds of costs: %v", counts)
	}
}

func TestPromise4CostsThatLeaveTheRange(t *testing.T) {
	chain := treeOf([]int{-1, 0, 1, 2}, 1)
	for _, x := range []struct {
		payments []int
		cost     int
		want     []int
	}{
		{[]int{-999, -999, -999, -999}, 0, []int{-999, -999, -999, -999}}, {[]int{-999, -998, -997, -996}, 1, []int{-999, -999, -999, -999}},
		{[]int{-999, -998, -997, -997}, 1, nil}, {[]int{-999, -999, 0, 0}, 1, nil}, {[]int{0, 0, 0, 0}, 333, []int{0, -333, -666, -999}},
		{[]int{0, 0, 0, 0}, 334, nil}, {[]int{999, 999, 999, 999}, 666, []int{999, 333, -333, -999}}, {[]int{999, 999, 999, 999}, 667, nil},
		{[]int{0, 0, 999, 999}, mostPay, nil}, {[]int{-999, 0, 999, 998}, 665, []int{-999, -665, -331, -997}},
		// These are no payments, even if the costs would lead into the range.
		{[]int{0, 1000, 0, 0}, 1, nil}, {[]int{0, 0, 0, 1001}, 2, nil}, {[]int{0, 0, math.MinInt, 0}, mostPay, nil}, {[]int{1000, 999, 999, 999}, 2, nil},
	} {
		got, ok := impl.CostlySteps(chain, x.payments, x.cost)
		if ok != (x.want != nil) || !slices.Equal(got, x.want) {
			t.Errorf("CostlySteps(%v, %d) = %v, %v", x.payments, x.cost, got, ok)
		}
	}
	checkList(t, []int{-999, 0})(impl.CostlySteps(treeOf([]int{-1, 0}, 1), []int{-999, 999}, mostPay))
}

func TestPromise4OneGameByHand(t *testing.T) {
	tree, payments := tieGame()
	envelope, okEnvelope := impl.EnvelopeOf(tree, payments)
	going, okGoing := impl.GoingOn(tree, payments, 2)
	level, mean, okLevel := impl.BestLevel(tree, payments)
	seer, okSeer := impl.SeerMean(tree, payments)
	if !okEnvelope || !slices.Equal(envelope, [][2]int{{9, 4}, {-1, 1}, {10, 3}, {8, 1}, {1, 1}}) || !okGoing || going != [2]int{10, 3} {
		t.Error("envelope", envelope, going)
	}
	if !okLevel || level != 4 || mean != [2]int{9, 4} || !okSeer || seer != [2]int{4, 1} {
		t.Error("bounds", level, mean, seer)
	}
	checkList(t, []int{1, 3, 4})(impl.BestRule(tree, payments))
	checkList(t, []int{1, 3, 4})(impl.LatestRule(tree, payments))
	checkList(t, []int{9, -1, 10, 8, 2})(impl.LeastCaps(tree, payments))
	checkList(t, []int{0})(impl.LookAhead(tree, payments, 1))
	checkList(t, []int{1, 3, 4})(impl.LookAhead(tree, payments, 2))
	checkList(t, []int{1, 2})(impl.ThresholdRule(tree, payments, 3))
	checkList(t, []int{2, -2, 2, 6, -1})(impl.CostlySteps(tree, payments, 1))
}

// With equal payments each rule is as good as any other one.
func TestPromise4EqualPayments(t *testing.T) {
	for _, g := range someGames() {
		for _, n := range []int{0, 1, -1, mostPay, -mostPay} {
			payments := slices.Repeat([]int{n}, len(g.sums))
			same := [2]int{n, 1}
			envelope, okEnvelope := impl.EnvelopeOf(g.tree, payments)
			level, mean, okLevel := impl.BestLevel(g.tree, payments)
			seer, okSeer := impl.SeerMean(g.tree, payments)
			bound, okBound := impl.BalanceBound(g.tree, payments, payments)
			if !okEnvelope || !okLevel || !okSeer || !okBound || !slices.Equal(envelope, slices.Repeat([][2]int{same}, len(payments))) || level != -mostPay || mean != same || seer != same || bound != same {
				t.Errorf("%v, all of %d: %v, %d, %v, %v, %v", g.tree, n, envelope, level, mean, seer, bound)
			}
			checkList(t, []int{0})(impl.BestRule(g.tree, payments))
			checkList(t, g.ends)(impl.LatestRule(g.tree, payments))
			for _, k := range []int{0, 1, mostLook} {
				checkList(t, []int{0})(impl.LookAhead(g.tree, payments, k))
			}
			checkList(t, []int{0})(impl.ThresholdRule(g.tree, payments, n))
			checkList(t, g.ends)(impl.ThresholdRule(g.tree, payments, n+1))
			for x, sum := range g.sums {
				if caps, ok := impl.LeastCaps(g.tree, payments); !ok || caps[x] != n*sum {
					t.Errorf("LeastCaps(%v, all of %d) = %v, %v", g.tree, n, caps, ok)
				}
			}
		}
	}
}

func TestPromise4OneNode(t *testing.T) {
	one := treeOf([]int{-1}, 7)
	for _, n := range []int{0, 1, -1, mostPay, -mostPay} {
		payments := []int{n}
		for _, m := range []int{0, 5, mostPay, -mostPay} {
			list := []int{m}
			balanced, ok := impl.IsBalanced(one, list)
			bound, okBound := impl.BalanceBound(one, payments, list)
			if !ok || !okBound || !balanced || bound != [2]int{n, 1} {
				t.Errorf("balance of %d for %d: %v, %v, %v, %v", m, n, balanced, ok, bound, okBound)
			}
			checkList(t, []int{0})(impl.ThresholdRule(one, payments, m))
			checkList(t, []int{0})(impl.LookAhead(one, payments, min(max(m, 0), mostLook)))
			checkList(t, payments)(impl.CostlySteps(one, payments, max(m, -m)))
		}
		mean, okMean := impl.RuleMean(one, payments, []int{0})
		envelope, okEnvelope := impl.EnvelopeOf(one, payments)
		if !okMean || !okEnvelope || mean != [2]int{n, 1} || !slices.Equal(envelope, [][2]int{{n, 1}}) {
			t.Errorf("%d: %v, %v, %v, %v", n, mean, okMean, envelope, okEnvelope)
		}
		level, top, okLevel := impl.BestLevel(one, payments)
		if going, ok := impl.GoingOn(one, payments, 0); ok || going != [2]int{} || !okLevel || level != -mostPay || top != [2]int{n, 1} {
			t.Errorf("%d: GoingOn %v, %v, BestLevel %d, %v, %v", n, going, ok, level, top, okLevel)
		}
		checkList(t, []int{0})(impl.BestRule(one, payments))
		checkList(t, []int{0})(impl.LatestRule(one, payments))
		checkList(t, []int{7 * n})(impl.LeastCaps(one, payments))
	}
	noLater, okNoLater := impl.IsNoLater(one, []int{0}, []int{0})
	if is, ok := impl.IsRule(one, []int{0}); !ok || !is || !okNoLater || !noLater {
		t.Errorf("the rule of one node: %v, %v, %v, %v", is, ok, noLater, okNoLater)
	}
	checkList(t, []int{0})(impl.EarlierRule(one, []int{0}, []int{0}))
	checkList(t, []int{0})(impl.LaterRule(one, []int{0}, []int{0}))
}
