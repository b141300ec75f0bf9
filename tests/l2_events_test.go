package tests

import (
	"fmt"
	"math"
	"math/big"
	"slices"
	"testing"

	"loop.example/g01131/impl"
)

// badEvents returns lists that are no events of a tree.
func badEvents(t impl.Tree) [][]int {
	ends := leaves(t)
	last, size := ends[len(ends)-1], len(t.Parents)
	bad := [][]int{
		{-1}, {size}, {size + 1}, {math.MaxInt}, {math.MinInt}, {last, last}, {last, size}, {-1, last},
		append(slices.Clone(ends), last), append(slices.Clone(ends), ends...), append(slices.Clone(ends), math.MinInt),
		make([]int, 1<<20),
	}
	if size > 1 {
		bad = append(bad, []int{0}, []int{0, last})
	}
	if len(ends) > 1 {
		bad = append(bad, []int{last, ends[0]}, append([]int{last}, ends...))
	}
	return bad
}

// chanceWhere adds the chances of the ends for which has is true, each as a fraction of its own.
func chanceWhere(t impl.Tree, has func(end int) bool) *big.Rat {
	sum := rat(0, 1)
	for _, end := range leaves(t) {
		if has(end) {
			sum.Add(sum, rat(t.Weights[end], weightBelow(t, 0)))
		}
	}
	return sum
}

func chanceOfEvent(t impl.Tree, event []int) *big.Rat {
	return chanceWhere(t, func(end int) bool { return slices.Contains(event, end) })
}

func chanceOfBoth(t impl.Tree, a []int, b []int) *big.Rat {
	return chanceWhere(t, func(end int) bool { return slices.Contains(a, end) && slices.Contains(b, end) })
}

func TestPromise2EventsAndOtherEnds(t *testing.T) {
	for _, tree := range someTrees() {
		for _, event := range eventsOf(tree) {
			chance, ok := impl.EventChance(tree, event)
			checkFraction(t, fmt.Sprint("EventChance", tree, event), chance, ok, chanceOfEvent(tree, event))
			var want []int
			for _, end := range leaves(tree) {
				if !slices.Contains(event, end) {
					want = append(want, end)
				}
			}
			others, ok := impl.OtherEnds(tree, event)
			if !ok || !slices.Equal(others, want) {
				t.Errorf("OtherEnds(%v, %v) = %v, %v", tree, event, others, ok)
			}
			rest, _ := impl.EventChance(tree, others)
			if sum, ok := impl.AddFractions(chance, rest); !ok || sum != [2]int{1, 1} {
				t.Errorf("%v: the chances of %v and of its other ends have the sum %v", tree, event, sum)
			}
		}
	}
}

func TestPromise2IndicatorOf(t *testing.T) {
	for _, tree := range someTrees() {
		for _, event := range eventsOf(tree) {
			pays, ok := impl.IndicatorOf(tree, event)
			if !ok || len(pays) != len(leaves(tree)) {
				t.Fatalf("IndicatorOf(%v, %v) = %v, %v", tree, event, pays, ok)
			}
			for i, end := range leaves(tree) {
				if in := slices.Contains(event, end); in && pays[i] != 1 || !in && pays[i] != 0 {
					t.Errorf("IndicatorOf(%v, %v) = %v", tree, event, pays)
				}
			}
			means, _ := impl.MeansOf(tree, pays)
			if chance, _ := impl.EventChance(tree, event); means[0] != chance {
				t.Errorf("%v: the indicator of %v has the mean %v, the event the chance %v", tree, event, means[0], chance)
			}
		}
	}
}

func TestPromise2ChanceGiven(t *testing.T) {
	for _, tree := range someTrees() {
		events := eventsOf(tree)
		for _, event := range events {
			for _, given := range events {
				got, ok := impl.ChanceGiven(tree, event, given)
				if len(given) == 0 {
					if ok || got != [2]int{} {
						t.Errorf("ChanceGiven(%v, %v, {}) = %v, %v", tree, event, got, ok)
					}
					continue
				}
				want := chanceOfBoth(tree, event, given)
				want.Quo(want, chanceOfEvent(tree, given))
				checkFraction(t, fmt.Sprint("ChanceGiven", tree, event, given), got, ok, want)
			}
		}
	}
}

func TestPromise2AreIndependent(t *testing.T) {
	free := 0
	for _, tree := range someTrees() {
		events := eventsOf(tree)
		for _, a := range events {
			for _, b := range events {
				product := new(big.Rat).Mul(chanceOfEvent(tree, a), chanceOfEvent(tree, b))
				want := product.Cmp(chanceOfBoth(tree, a, b)) == 0
				got, ok := impl.AreIndependent(tree, a, b)
				if !ok || got != want {
					t.Errorf("AreIndependent(%v, %v, %v) = %v, %v", tree, a, b, got, ok)
				}
				if others, _ := impl.OtherEnds(tree, b); want {
					if still, ok := impl.AreIndependent(tree, a, others); !ok || !still {
						t.Errorf("%v: %v and %v are independent, but not the other ends of the second one", tree, a, b)
					}
				}
				if want && len(a) > 0 && len(b) > 0 && len(a) < len(leaves(tree)) && len(b) < len(leaves(tree)) {
					free++
				}
			}
		}
	}
	if free == 0 {
		t.Error("no pair of events is independent but for those without ends and with all")
	}
}

func TestPromise2TwoCoinsAreIndependent(t *testing.T) {
	// The first coin is node 1 or 2, the second one the first or second end below it.
	tree := impl.Tree{Parents: []int{-1, 0, 0, 1, 1, 2, 2}, Weights: []int{0, 0, 0, 2, 4, 3, 6}}
	for _, x := range []struct {
		a, b []int
		want bool
	}{
		{[]int{3, 4}, []int{3, 5}, true}, {[]int{3, 4}, []int{4, 6}, true}, {[]int{5, 6}, []int{3, 5}, true},
		{[]int{3, 4}, []int{3, 6}, false}, {[]int{3}, []int{4}, false}, {[]int{3, 4}, []int{3, 4}, false},
		{nil, []int{3}, true}, {[]int{3, 4, 5, 6}, []int{4}, true}, {nil, nil, true},
	} {
		if got, ok := impl.AreIndependent(tree, x.a, x.b); !ok || got != x.want {
			t.Errorf("AreIndependent(%v, %v) = %v, %v", x.a, x.b, got, ok)
		}
	}
}

func TestPromise2OtherListsAreNoEvents(t *testing.T) {
	for _, tree := range limitTrees() {
		for _, bad := range badEvents(tree) {
			checkNoEvent(t, tree, bad)
			for _, good := range [][]int{nil, leaves(tree), bad} {
				given, okGiven := impl.ChanceGiven(tree, good, bad)
				chance, okChance := impl.ChanceGiven(tree, bad, good)
				if okGiven || okChance || given != [2]int{} || chance != [2]int{} {
					t.Errorf("ChanceGiven with %.9v, no event of %v: %v, %v", bad, tree, given, chance)
				}
				one, okOne := impl.AreIndependent(tree, good, bad)
				two, okTwo := impl.AreIndependent(tree, bad, good)
				if okOne || okTwo || one || two {
					t.Errorf("AreIndependent with %.9v, no event of %v: %v, %v", bad, tree, one, two)
				}
			}
		}
	}
	for _, tree := range badTrees() {
		for _, event := range [][]int{nil, {0}, {1}} {
			checkNoEvent(t, tree, event)
		}
	}
}

func checkNoEvent(t *testing.T, tree impl.Tree, event []int) {
	t.Helper()
	if got, ok := impl.EventChance(tree, event); ok || got != [2]int{} {
		t.Errorf("EventChance(%.9v) = %v, %v", event, got, ok)
	}
	if got, ok := impl.OtherEnds(tree, event); ok || len(got) > 0 {
		t.Errorf("OtherEnds(%.9v) = %v, %v", event, got, ok)
	}
	if got, ok := impl.IndicatorOf(tree, event); ok || len(got) > 0 {
		t.Errorf("IndicatorOf(%.9v) = %v, %v", event, got, ok)
	}
}
