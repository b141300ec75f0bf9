package tests

import (
	"math"
	"slices"
	"testing"

	"loop.example/g01131/impl"
)

func TestPromise10Limits(t *testing.T) {
	if impl.MaxSpots != mostSpots || impl.MaxUnits != mostUnits {
		t.Error("the limits of spreads are others")
	}
}

func TestPromise10IsSpread(t *testing.T) {
	for _, x := range manyPairs() {
		if !impl.IsSpread(x.p) || !impl.IsSpread(x.q) {
			t.Errorf("%v or %v is no spread", x.p, x.q)
		}
	}
	for _, bad := range badSpreads() {
		if impl.IsSpread(bad) {
			t.Errorf("IsSpread(%.9v) is true", bad)
		}
	}
	for size := range mostSpots + 2 {
		tuples([]int{-1, 0, 1, mostUnits, mostUnits + 1}, min(size, 4), func(list []int) {
			p := append(slices.Clone(list), make([]int, max(size-4, 0))...)
			if impl.IsSpread(p) != isSpread(p) {
				t.Errorf("IsSpread(%v) is not %v", p, isSpread(p))
			}
		})
	}
}

func TestPromise10AreAlike(t *testing.T) {
	for _, x := range manyPairs() {
		if alike, ok := impl.AreAlike(x.p, x.q); !ok || !alike {
			t.Errorf("AreAlike(%v, %v) = %v, %v", x.p, x.q, alike, ok)
		}
	}
	for _, x := range unlikePairs() {
		for _, x := range []pair{x, {x.q, x.p}} {
			if alike, ok := impl.AreAlike(x.p, x.q); !ok || alike {
				t.Errorf("AreAlike(%v, %v) = %v, %v", x.p, x.q, alike, ok)
			}
		}
	}
	for _, bad := range badSpreads() {
		for _, other := range append(badSpreads(), []int{1}, []int{1, 2}) {
			first, ok := impl.AreAlike(bad, other)
			second, okSecond := impl.AreAlike(other, bad)
			if first || second || ok || okSecond {
				t.Errorf("AreAlike of %.9v and %.9v: %v, %v and %v, %v", bad, other, first, ok, second, okSecond)
			}
		}
	}
}

// Units of p that are no units of q are as many as the other way round.
func TestPromise10Distances(t *testing.T) {
	for _, x := range manyPairs() {
		sum := 0
		for spot := range x.p {
			sum += max(x.p[spot]-x.q[spot], x.q[spot]-x.p[spot])
		}
		checkCount(t, sum/2)(impl.DistanceOf(x.p, x.q))
		checkCount(t, sum/2)(impl.DistanceOf(x.q, x.p))
		checkCount(t, 0)(impl.DistanceOf(x.p, x.p))
	}
	checkCount(t, 1)(impl.DistanceOf([]int{2, 1, 1}, []int{1, 1, 2}))
	checkCount(t, mostUnits)(impl.DistanceOf([]int{mostUnits, 0}, []int{0, mostUnits}))
	checkCount(t, 0)(impl.DistanceOf([]int{mostUnits}, []int{mostUnits}))
	checkCount(t, 1)(impl.DistanceOf([]int{0, 1}, []int{1, 0}))
}

// The first unit goes to the first place, the second one to the second place, and so on.
func TestPromise10EarthDistances(t *testing.T) {
	for _, x := range manyPairs() {
		places, sum := unitsIn(x.q), 0
		for k, spot := range unitsIn(x.p) {
			sum += apart(spot, places[k])
		}
		checkCount(t, sum)(impl.EarthDistance(x.p, x.q))
		checkCount(t, sum)(impl.EarthDistance(x.q, x.p))
		checkCount(t, 0)(impl.EarthDistance(x.q, x.q))
		if distance, _ := impl.DistanceOf(x.p, x.q); distance > sum {
			t.Errorf("DistanceOf(%v, %v) is %d, and EarthDistance %d", x.p, x.q, distance, sum)
		}
	}
	checkCount(t, 2)(impl.EarthDistance([]int{2, 1, 1}, []int{1, 1, 2}))
	checkCount(t, 7*mostUnits)(impl.EarthDistance([]int{mostUnits, 0, 0, 0, 0, 0, 0, 0}, []int{0, 0, 0, 0, 0, 0, 0, mostUnits}))
}

// isAbove reports whether each unit of p has no less a spot than that of q in the same place.
func isAbove(p []int, q []int) bool {
	places := unitsIn(q)
	for k, spot := range unitsIn(p) {
		if spot < places[k] {
			return false
		}
	}
	return true
}

func TestPromise10IsAbove(t *testing.T) {
	counts := map[bool]int{}
	for _, x := range manyPairs() {
		for _, x := range []pair{x, {x.q, x.p}, {x.p, x.p}} {
			want := isAbove(x.p, x.q)
			if above, ok := impl.IsAbove(x.p, x.q); !ok || above != want {
				t.Errorf("IsAbove(%v, %v) = %v, %v", x.p, x.q, above, ok)
			}
			counts[want]++
		}
	}
	if counts[true] == 0 || counts[false] == 0 {
		t.Errorf("not both kinds of pairs: %v", counts)
	}
}

// eachRising calls visit with all lists of a number of small numbers that never fall.
func eachRising(spots int, visit func(list []int)) {
	tuples([]int{0, 1, 2}, spots, func(list []int) {
		if slices.IsSorted(list) {
			visit(list)
		}
	})
}

// timesUnits returns the sum of the units of a spread times the numbers of a list.
func timesUnits(p []int, list []int) int {
	sum := 0
	for spot, units := range p {
		sum += units * list[spot]
	}
	return sum
}

// A spread is above another one exactly if it has no less a mean of any list that never falls.
func TestPromise10MeansOfRisingLists(t *testing.T) {
	for _, x := range manyPairs() {
		want := true
		eachRising(len(x.p), func(list []int) {
			want = want && timesUnits(x.p, list) >= timesUnits(x.q, list)
		})
		if above, ok := impl.IsAbove(x.p, x.q); !ok || above != want {
			t.Errorf("IsAbove(%v, %v) = %v, %v", x.p, x.q, above, ok)
		}
	}
}

// isWider tells it by the document's words.
func isWider(p []int, q []int) bool {
	var spots []int
	for s := range p {
		spots = append(spots, s)
	}
	if timesUnits(p, spots) != timesUnits(q, spots) {
		return false
	}
	for s := range p {
		var below []int
		for spot := range p {
			below = append(below, max(0, s-spot))
		}
		if timesUnits(p, below) < timesUnits(q, below) {
			return false
		}
	}
	return true
}

func TestPromise10IsWider(t *testing.T) {
	counts := map[bool]int{}
	for _, x := range manyPairs() {
		for _, x := range []pair{x, {x.q, x.p}, {x.p, x.p}} {
			want := isWider(x.p, x.q)
			if wider, ok := impl.IsWider(x.p, x.q); !ok || wider != want {
				t.Errorf("IsWider(%v, %v) = %v, %v", x.p, x.q, wider, ok)
			}
			counts[want && !slices.Equal(x.p, x.q)]++
		}
	}
	if counts[true] == 0 || counts[false] == 0 {
		t.Errorf("not both kinds of pairs: %v", counts)
	}
	for _, x := range widePairs(400) {
		if wider, ok := impl.IsWider(x.p, x.q); !ok || !wider {
			t.Errorf("IsWider(%v, %v) = %v, %v", x.p, x.q, wider, ok)
		}
	}
}

// The spreads that are wider are just those to which units go apart, one pair after the other.
func TestPromise10WiderSpreadsAreThoseFurtherApart(t *testing.T) {
	for _, limit := range [][2]int{{1, 2}, {2, 3}, {3, 5}, {4, 4}, {5, 4}, {6, 3}} {
		spreads := spreadsOf(limit[0], limit[1])
		for _, q := range spreads {
			found := [][]int{q}
			for i := 0; i < len(found); i++ {
				for low := 1; low < len(q)-1; low++ {
					for high := low; high < len(q)-1; high++ {
						next := slices.Clone(found[i])
						goApart(next, low, high)
						isKnown := slices.ContainsFunc(found, func(other []int) bool { return slices.Equal(other, next) })
						if slices.Min(next) >= 0 && !isKnown {
							found = append(found, next)
						}
					}
				}
			}
			for _, p := range spreads {
				want := slices.ContainsFunc(found, func(other []int) bool { return slices.Equal(other, p) })
				if wider, ok := impl.IsWider(p, q); !ok || wider != want {
					t.Errorf("IsWider(%v, %v) = %v, %v", p, q, wider, ok)
				}
			}
		}
	}
}

func TestPromise10MoveApart(t *testing.T) {
	moves := 0
	for _, x := range manyPairs() {
		for s := -1; s <= len(x.p); s++ {
			got, ok := impl.MoveApart(x.p, s)
			if s < 1 || s >= len(x.p)-1 || x.p[s] < 2 {
				checkNoList(t)(got, ok)
				continue
			}
			want := slices.Clone(x.p)
			goApart(want, s, s)
			checkList(t, want)(got, ok)
			if wider, ok := impl.IsWider(got, x.p); !ok || !wider {
				t.Errorf("MoveApart(%v, %d) = %v is not wider", x.p, s, got)
			}
			if wider, ok := impl.IsWider(x.p, got); !ok || wider {
				t.Errorf("%v is wider than MoveApart of it at %d, %v", x.p, s, got)
			}
			plan := noUnits(len(x.p))
			for spot, units := range x.p {
				plan[spot][spot] = units
			}
			plan[s][s-1], plan[s][s], plan[s][s+1] = 1, plan[s][s]-2, 1
			if centred, ok := impl.IsCentred(x.p, got, plan); !ok || !centred {
				t.Errorf("IsCentred(%v, %v, %v) = %v, %v", x.p, got, plan, centred, ok)
			}
			moves++
		}
	}
	if moves == 0 {
		t.Error("no units go apart")
	}
	checkList(t, []int{1, 0, 1})(impl.MoveApart([]int{0, 2, 0}, 1))
	checkList(t, []int{1, mostUnits - 2, 1})(impl.MoveApart([]int{0, mostUnits, 0}, 1))
	checkList(t, []int{3, 1, 3})(impl.MoveApart([]int{2, 3, 2}, 1))
	checkList(t, []int{0, 0, 0, 0, 0, 1, 0, 1})(impl.MoveApart([]int{0, 0, 0, 0, 0, 0, 2, 0}, 6))
}

func TestPromise10NoUnitsToMoveApart(t *testing.T) {
	for _, p := range [][]int{{mostUnits}, {20, 20}, {3, 1, 3}, {3, 0, 3}, {5, 5, 5, 5, 5, 5, 5, 5}} {
		for _, s := range []int{-1, 0, len(p) - 1, len(p), len(p) + 1, math.MaxInt, math.MinInt} {
			checkNoList(t)(impl.MoveApart(p, s))
		}
	}
	checkNoList(t)(impl.MoveApart([]int{3, 1, 3}, 1))
	checkNoList(t)(impl.MoveApart([]int{3, 0, 3}, 1))
	for _, bad := range badSpreads() {
		for _, s := range []int{0, 1, 2, 6, 7, len(bad) - 2, math.MaxInt, math.MinInt} {
			checkNoList(t)(impl.MoveApart(bad, s))
		}
	}
}

func TestPromise10MixSpreads(t *testing.T) {
	counts := map[bool]int{}
	for _, x := range manyPairs() {
		var want []int
		for spot := range x.p {
			want = append(want, x.p[spot]+x.q[spot])
		}
		counts[sumOf(want) <= mostUnits]++
		for _, x := range []pair{x, {x.q, x.p}} {
			got, ok := impl.MixSpreads(x.p, x.q)
			if sumOf(want) <= mostUnits {
				checkList(t, want)(got, ok)
			} else {
				checkNoList(t)(got, ok)
			}
		}
	}
	if counts[true] == 0 || counts[false] == 0 {
		t.Errorf("not both kinds of pairs: %v", counts)
	}
	checkList(t, []int{3, 2, 3})(impl.MixSpreads([]int{2, 1, 1}, []int{1, 1, 2}))
	checkList(t, []int{mostUnits})(impl.MixSpreads([]int{20}, []int{20}))
	checkList(t, []int{20, 0, 20})(impl.MixSpreads([]int{20, 0, 0}, []int{0, 0, 20}))
	checkNoList(t)(impl.MixSpreads([]int{21}, []int{21}))
	checkNoList(t)(impl.MixSpreads([]int{20, 1}, []int{20, 1}))
	checkNoList(t)(impl.MixSpreads([]int{20}, []int{21}))
	checkNoList(t)(impl.MixSpreads([]int{20, 1}, []int{20, 0}))
	checkNoList(t)(impl.MixSpreads([]int{2, 1}, []int{1, 1}))
}

func TestPromise10NoPairs(t *testing.T) {
	for _, x := range noPairs() {
		for _, x := range []pair{x, {x.q, x.p}} {
			checkNoCount(t)(impl.DistanceOf(x.p, x.q))
			checkNoCount(t)(impl.EarthDistance(x.p, x.q))
			checkNoList(t)(impl.MixSpreads(x.p, x.q))
			for _, call := range []func(p []int, q []int) (bool, bool){impl.IsAbove, impl.IsWider} {
				if is, ok := call(x.p, x.q); is || ok {
					t.Errorf("an order of %.9v and %.9v: %v, %v", x.p, x.q, is, ok)
				}
			}
		}
	}
}
