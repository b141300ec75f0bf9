package tests

import (
	"fmt"
	"slices"
	"testing"

	"loop.example/g01131/impl"
)

func TestPromise11IsUse(t *testing.T) {
	for _, u := range manyUses() {
		if !impl.IsUse(u) {
			t.Errorf("%v is no use", u)
		}
	}
	for _, u := range badUses() {
		if impl.IsUse(u) {
			t.Errorf("%.20v is a use", u)
		}
	}
	for size := range 5 {
		tuples([]int{-1, 0, mostUse, mostUse + 1}, size, func(u []int) {
			if impl.IsUse(u) != isUse(u) {
				t.Errorf("IsUse(%v) is not %v", u, isUse(u))
			}
		})
	}
}

// useReports returns both functions that report on a use, with what they must tell.
func useReports() []struct {
	name string
	call func(u []int) (bool, bool)
	want func(u []int) bool
} {
	return []struct {
		name string
		call func(u []int) (bool, bool)
		want func(u []int) bool
	}{{"IsRising", impl.IsRising, isRising}, {"IsConcave", impl.IsConcave, isConcave}}
}

func TestPromise11RisingAndConcaveUses(t *testing.T) {
	for _, report := range useReports() {
		counts := map[bool]int{}
		check := func(u []int) {
			counts[report.want(u)]++
			checkFound(t, fmt.Sprint(report.name, " of ", u), report.want(u))(report.call(u))
		}
		for _, u := range manyUses() {
			check(u)
		}
		tuples([]int{0, 1, 2, 4}, 5, check)
		if counts[true] == 0 || counts[false] == 0 {
			t.Errorf("%s has not both reports: %v", report.name, counts)
		}
		for _, u := range badUses() {
			if is, ok := report.call(u); is || ok {
				t.Errorf("%s of %.20v = %v, %v", report.name, u, is, ok)
			}
		}
	}
}

func TestPromise11KnownRisingAndConcaveUses(t *testing.T) {
	for _, x := range []struct {
		u       []int
		rising  bool
		concave bool
	}{
		{[]int{0, 4, 6, 7}, true, true}, {[]int{0, 1, 4, 9}, true, false}, {[]int{5}, true, true}, {[]int{0}, true, true}, {[]int{0, mostUse}, true, true}, {[]int{mostUse, 0}, false, true}, {[]int{3, 3, 3}, true, true}, {[]int{1, 2, 3}, true, true},
		{[]int{0, 2, 1}, false, true}, {[]int{2, 0, 0}, false, false}, {[]int{2, 0, 1}, false, false}, {[]int{0, 0, 1}, true, false}, {[]int{0, 1, 1, 2}, true, false}, {[]int{0, 3, 5, 6, 6, 6, 6, 6, 6, 6, 6, 6, 6}, true, true}, {[]int{0, 3, 5, 6, 6, 6, 6, 6, 6, 6, 6, 6, 7}, true, false}, {[]int{0, 3, 5, 6, 6, 6, 6, 6, 6, 6, 6, 6, 5}, false, true},
	} {
		checkFound(t, fmt.Sprint("IsRising of ", x.u), x.rising)(impl.IsRising(x.u))
		checkFound(t, fmt.Sprint("IsConcave of ", x.u), x.concave)(impl.IsConcave(x.u))
	}
}

// eachMean calls visit with many spreads and uses with as many numbers.
func eachMean(visit func(p []int, u []int)) {
	rolls := &dice{13}
	for size := 1; size <= mostSpots; size++ {
		uses := usesOf(rolls, size)
		for i, x := range manyPairs() {
			for k := range 4 {
				if len(x.p) == size {
					visit(x.p, uses[(3*i+k)%len(uses)])
				}
			}
		}
	}
}

// Each unit counts for itself.
func TestPromise11MeanUses(t *testing.T) {
	eachMean(func(p []int, u []int) {
		mean := 0
		for _, spot := range unitsIn(p) {
			mean += u[spot]
		}
		checkCount(t, mean)(impl.MeanUse(p, u))
	})
	checkCount(t, 6)(impl.MeanUse([]int{1, 0, 1, 0}, []int{0, 4, 6, 7}))
	checkCount(t, mostUnits*mostUse)(impl.MeanUse([]int{mostUnits}, []int{mostUse}))
	checkCount(t, mostUnits*mostUse)(impl.MeanUse([]int{5, 5, 5, 5, 5, 5, 5, 5}, slices.Repeat([]int{mostUse}, mostSpots)))
	checkCount(t, 0)(impl.MeanUse([]int{0, 1}, []int{mostUse, 0}))
}

func TestPromise11SureCoins(t *testing.T) {
	counts := map[int]int{}
	eachMean(func(p []int, u []int) {
		want := 0
		for u[want]*sumOf(p) < timesUnits(p, u) {
			want++
		}
		checkCount(t, want)(impl.SureCoins(p, u))
		counts[want]++
		if spots := timesUnits(p, facesOf(len(p))); isRising(u) && isConcave(u) && (want-1)*sumOf(p) >= spots {
			t.Errorf("SureCoins(%v, %v) is %d, and the mean of the spots less by 1 or more", p, u, want)
		}
	})
	if len(counts) < mostSpots {
		t.Errorf("not all numbers of coins are sure: %v", counts)
	}
	for _, x := range []struct {
		p, u []int
		want int
	}{
		{[]int{1, 0, 1, 0}, []int{0, 4, 6, 7}, 1}, {[]int{0, 1, 0}, []int{1, 2, 3}, 1}, {[]int{0, 1, 1}, []int{9, 0, 5}, 0}, {[]int{0, 1, 1}, []int{2, 0, 5}, 2}, {[]int{0, 1, 1}, []int{2, 3, 4}, 2}, {[]int{1, 0, 1}, []int{2, 3, 4}, 1}, {[]int{0, 0, 3}, []int{2, 3, 4}, 2}, {[]int{1, 1}, []int{0, 0}, 0}, {[]int{1, 1}, []int{0, 1}, 1}, {[]int{mostUnits - 1, 1}, []int{0, 1}, 1}, {[]int{mostUnits}, []int{mostUse}, 0},
	} {
		checkCount(t, x.want)(impl.SureCoins(x.p, x.u))
	}
}

// A spread that is above another one has no less a mean of a rising use, and one that is wider has no
// greater one of a concave use.
func TestPromise11MeanUsesOfOrders(t *testing.T) {
	rolls := &dice{14}
	var less, equal [2]int
	for size := 1; size <= mostSpots; size++ {
		uses := usesOf(rolls, size)
		for _, x := range append(manyPairs(), widePairs(400)...) {
			if len(x.p) != size {
				continue
			}
			above, _ := impl.IsAbove(x.p, x.q)
			wider, _ := impl.IsWider(x.p, x.q)
			for _, u := range uses {
				first, ok := impl.MeanUse(x.p, u)
				second, again := impl.MeanUse(x.q, u)
				rising, _ := impl.IsRising(u)
				concave, _ := impl.IsConcave(u)
				for i, has := range []bool{above && rising, wider && concave} {
					apart := (first - second) * (1 - 2*i)
					switch {
					case !ok || !again || has && apart < 0:
						t.Fatalf("%v has %d, %v of %v, and %v has %d, %v", x.p, first, ok, u, x.q, second, again)
					case has && apart > 0:
						less[i]++
					case has:
						equal[i]++
					}
				}
			}
		}
	}
	if slices.Min(less[:]) == 0 || slices.Min(equal[:]) == 0 {
		t.Errorf("not all kinds of means: %v and %v", less, equal)
	}
}

func checkNoMean(t *testing.T, p []int, u []int) {
	t.Helper()
	checkNoCount(t)(impl.MeanUse(p, u))
	checkNoCount(t)(impl.SureCoins(p, u))
}

func TestPromise11NoMeanUses(t *testing.T) {
	for _, p := range badSpreads() {
		checkNoMean(t, p, make([]int, len(p)))
		for size := 1; size <= mostHoard+1; size++ {
			checkNoMean(t, p, facesOf(size))
		}
	}
	for _, u := range badUses() {
		p := make([]int, max(1, len(u)))
		p[len(p)-1] = mostUnits
		checkNoMean(t, p, u)
		checkNoMean(t, []int{1}, u)
	}
	for spots := 1; spots <= mostSpots; spots++ {
		for size := 1; size <= mostHoard+1; size++ {
			if size != spots {
				checkNoMean(t, slices.Repeat([]int{1}, spots), facesOf(size))
				checkNoMean(t, append([]int{mostUnits}, make([]int, spots-1)...), make([]int, size))
			}
		}
	}
	// There are uses with more numbers than a spread has spots.
	checkNoMean(t, append([]int{1}, make([]int, mostSpots)...), make([]int, mostSpots+1))
	checkNoMean(t, append([]int{1}, make([]int, mostHoard)...), make([]int, mostHoard+1))
}
