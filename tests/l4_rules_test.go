package tests

import (
	"fmt"
	"math"
	"slices"
	"testing"

	"loop.example/g01131/impl"
)

func TestPromise4Limits(t *testing.T) {
	if impl.MaxLook != mostLook {
		t.Error("limit of steps", impl.MaxLook)
	}
}

func TestPromise4IsRule(t *testing.T) {
	check := func(tree impl.Tree, list []int, want bool) {
		if is, ok := impl.IsRule(tree, list); !ok || is != want {
			t.Errorf("IsRule(%v, %.9v) = %v, %v", tree, list, is, ok)
		}
	}
	for size := 1; size <= 5; size++ {
		for _, parents := range shapes(size) {
			tree := treeOf(parents, 1, 2, 3)
			for _, list := range nodeLists(size) {
				check(tree, list, isStopping(tree, list))
			}
		}
	}
	for _, tree := range someTrees() {
		for _, rule := range someStops(tree) {
			check(tree, rule, true)
		}
		for _, bad := range badStops(tree) {
			check(tree, bad, false)
		}
	}
	for i, tree := range badTrees() {
		for _, list := range [][]int{nil, {0}, {1}, {0, 1}, {1, 2}} {
			if is, ok := impl.IsRule(tree, list); is || ok {
				t.Errorf("IsRule of the bad Tree %d, %v = %v, %v", i, list, is, ok)
			}
		}
	}
}

func TestPromise4TheMeanOfARuleIsAtMostTheEnvelope(t *testing.T) {
	for _, g := range someGames() {
		for _, payments := range somePayments(g.tree) {
			top := g.envelope(payments)[0]
			for _, rule := range someStops(g.tree) {
				want := rat(g.paidBy(payments, rule), g.sums[0])
				mean, ok := impl.RuleMean(g.tree, payments, rule)
				checkFraction(t, fmt.Sprint("RuleMean", g.tree, payments, rule), mean, ok, want)
				if want.Cmp(top) > 0 {
					t.Errorf("%v on %v has the mean %v, more than %v", rule, g.tree, want, top)
				}
			}
		}
	}
}

// An envelope is at least the payments and what going on is worth, and at each node one of both:
// so it is the least that is.
func TestPromise4EnvelopeOf(t *testing.T) {
	for _, g := range someGames() {
		for _, payments := range somePayments(g.tree) {
			envelope, ok := impl.EnvelopeOf(g.tree, payments)
			if !ok || len(envelope) != len(payments) {
				t.Fatalf("EnvelopeOf(%v, %v) = %v, %v", g.tree, payments, envelope, ok)
			}
			for x, want := range g.envelope(payments) {
				if !isFraction(envelope[x], want) {
					t.Errorf("EnvelopeOf(%v, %v)[%d] = %v; want %v", g.tree, payments, x, envelope[x], want)
				}
			}
		}
	}
}

// greatestMean returns the greatest mean of all rules for what lies at and below a node, times
// the sum of the node.
func (g game) greatestMean(payments []int, x int) int {
	most := math.MinInt
	for _, rule := range allStops(g.tree, x) {
		total := 0
		for _, y := range rule {
			total += g.sums[y] * payments[y]
		}
		most = max(most, total)
	}
	return most
}

func TestPromise4TheEnvelopeIsTheGreatestMeanOfRules(t *testing.T) {
	for _, g := range someGames() {
		for _, payments := range somePayments(g.tree) {
			envelope, ok := impl.EnvelopeOf(g.tree, payments)
			caps, okCaps := impl.LeastCaps(g.tree, payments)
			if !ok || !okCaps {
				t.Fatalf("EnvelopeOf and LeastCaps(%v, %v): %v, %v", g.tree, payments, ok, okCaps)
			}
			for x := range g.sums {
				if x > 0 && len(g.sums) > 5 {
					break
				}
				most := g.greatestMean(payments, x)
				if caps[x] != most || !isFraction(envelope[x], rat(most, g.sums[x])) {
					t.Errorf("%v, %v at %d: %v, %d; a rule has %d", g.tree, payments, x, envelope[x], caps[x], most)
				}
			}
		}
	}
}

func TestPromise4GoingOn(t *testing.T) {
	for _, g := range someGames() {
		for _, payments := range somePayments(g.tree) {
			worth := g.envelope(payments)
			for x := range payments {
				got, ok := impl.GoingOn(g.tree, payments, x)
				want := g.goingOn(worth, x)
				if want == nil && (ok || got != [2]int{}) || want != nil && (!ok || !isFraction(got, want)) {
					t.Errorf("GoingOn(%v, %v, %d) = %v, %v; want %v", g.tree, payments, x, got, ok, want)
				}
			}
			for _, x := range []int{-1, len(payments), math.MaxInt, math.MinInt} {
				if got, ok := impl.GoingOn(g.tree, payments, x); ok || got != [2]int{} {
					t.Errorf("GoingOn(%v, %v, %d) = %v, %v", g.tree, payments, x, got, ok)
				}
			}
		}
	}
}

func TestPromise4BestAndLatestRules(t *testing.T) {
	for _, g := range someGames() {
		for _, payments := range somePayments(g.tree) {
			worth := g.envelope(payments)
			best, okBest := impl.BestRule(g.tree, payments)
			latest, okLatest := impl.LatestRule(g.tree, payments)
			wantBest := g.firstWhere(func(x int) bool { return worth[x].Cmp(rat(payments[x], 1)) == 0 })
			wantLatest := g.firstWhere(func(x int) bool { return g.goingOn(worth, x).Cmp(rat(payments[x], 1)) < 0 })
			if !okBest || !okLatest || !slices.Equal(best, wantBest) || !slices.Equal(latest, wantLatest) {
				t.Errorf("%v, %v: BestRule %v, %v, LatestRule %v, %v; want %v and %v", g.tree, payments, best, okBest, latest, okLatest, wantBest, wantLatest)
			}
			first, _ := impl.RuleMean(g.tree, payments, best)
			last, _ := impl.RuleMean(g.tree, payments, latest)
			if !isFraction(first, worth[0]) || !isFraction(last, worth[0]) {
				t.Errorf("%v, %v: the means of BestRule and LatestRule are %v and %v, not %v", g.tree, payments, first, last, worth[0])
			}
			if is, ok := impl.IsNoLater(g.tree, best, latest); !ok || !is {
				t.Errorf("%v, %v: BestRule %v is later than LatestRule %v", g.tree, payments, best, latest)
			}
		}
	}
}

func TestPromise4NoRuleIsBetterOrAsGoodAndEarlierThanBestRule(t *testing.T) {
	for size := 1; size <= 5; size++ {
		for _, parents := range shapes(size) {
			g := gameOf(treeOf(parents, 1, 3, 2))
			rules := allStops(g.tree, 0)
			for _, payments := range somePayments(g.tree) {
				best, _ := impl.BestRule(g.tree, payments)
				latest, _ := impl.LatestRule(g.tree, payments)
				most := g.greatestMean(payments, 0)
				for _, rule := range rules {
					isBest := g.paidBy(payments, rule) == most
					if isBest && (!isNoLater(g.tree, best, rule) || !isNoLater(g.tree, rule, latest)) {
						t.Errorf("%v, %v: %v is as good, but not between %v and %v", g.tree, payments, rule, best, latest)
					}
				}
			}
		}
	}
}

func TestPromise4EarlierAndLaterRules(t *testing.T) {
	for _, g := range someGames() {
		rules := someStops(g.tree)
		payments := somePayments(g.tree)
		for i, a := range rules {
			for k, b := range rules {
				early, okEarly := impl.EarlierRule(g.tree, a, b)
				late, okLate := impl.LaterRule(g.tree, a, b)
				var first, last []int
				for _, end := range g.ends {
					// On a way from the root the numbers of the nodes ascend.
					x, y := stopOn(g.tree, a, end), stopOn(g.tree, b, end)
					first, last = append(first, min(x, y)), append(last, max(x, y))
				}
				if !okEarly || !okLate || !slices.Equal(early, stopOf(first)) || !slices.Equal(late, stopOf(last)) {
					t.Fatalf("EarlierRule and LaterRule(%v, %v, %v) = %v, %v, %v, %v", g.tree, a, b, early, okEarly, late, okLate)
				}
				list := payments[(i*len(rules)+k)%len(payments)]
				if g.paidBy(list, early)+g.paidBy(list, late) != g.paidBy(list, a)+g.paidBy(list, b) {
					t.Errorf("%v, %v: the means of %v and %v have another sum than those of %v and %v", g.tree, list, early, late, a, b)
				}
			}
		}
	}
}

func TestPromise4IsNoLater(t *testing.T) {
	counts := map[bool]int{}
	for _, tree := range someTrees() {
		rules := someStops(tree)
		for _, a := range rules {
			for _, b := range rules {
				want := isNoLater(tree, a, b)
				counts[want]++
				if got, ok := impl.IsNoLater(tree, a, b); !ok || got != want {
					t.Errorf("IsNoLater(%v, %v, %v) = %v, %v", tree, a, b, got, ok)
				}
			}
		}
	}
	if counts[true] == 0 || counts[false] == 0 {
		t.Errorf("not both kinds of pairs: %v", counts)
	}
}

func TestPromise4OtherListsAreNoRules(t *testing.T) {
	for _, tree := range limitTrees() {
		for _, bad := range badStops(tree) {
			checkNoRule(t, tree, bad)
		}
	}
	for _, tree := range badTrees() {
		for _, rule := range [][]int{nil, {0}, {1}, {1, 2}} {
			checkNoRule(t, tree, rule)
		}
	}
}

func checkNoRule(t *testing.T, tree impl.Tree, bad []int) {
	t.Helper()
	payments := make([]int, min(len(tree.Parents), mostNodes))
	if mean, ok := impl.RuleMean(tree, payments, bad); ok || mean != [2]int{} {
		t.Errorf("RuleMean of %.9v = %v, %v", bad, mean, ok)
	}
	for _, x := range [][2][]int{{bad, {0}}, {{0}, bad}, {bad, bad}} {
		early, okEarly := impl.EarlierRule(tree, x[0], x[1])
		late, okLate := impl.LaterRule(tree, x[0], x[1])
		noLater, ok := impl.IsNoLater(tree, x[0], x[1])
		if okEarly || okLate || ok || noLater || len(early)+len(late) > 0 {
			t.Errorf("%.9v: %v %v, %v %v, %v %v", x, early, okEarly, late, okLate, noLater, ok)
		}
	}
}
