package tests

import (
	"math"
	"testing"

	"loop.example/g01131/impl"
)

// checkCount returns what checks the results of a call that must return a number.
func checkCount(t *testing.T, want int) func(got int, ok bool) {
	return func(got int, ok bool) {
		t.Helper()
		if !ok || got != want {
			t.Errorf("%d, %v; want %d", got, ok, want)
		}
	}
}

// checkNoCount checks the results of a call that must fail.
func checkNoCount(t *testing.T) func(got int, ok bool) {
	return func(got int, ok bool) {
		t.Helper()
		if ok || got != 0 {
			t.Errorf("%d, %v; want a failure", got, ok)
		}
	}
}

// farPlaces returns numbers to which no walk comes.
func farPlaces() []int {
	return []int{mostWalk + 1, -mostWalk - 1, mostWalk + 2, -mostWalk - 2, math.MaxInt, math.MaxInt - 1, math.MinInt, math.MinInt + 1}
}

// badSteps returns numbers of steps that no walk has.
func badSteps() []int {
	return []int{-1, -2, mostWalk + 1, mostWalk + 2, math.MaxInt, math.MaxInt - 1, math.MinInt, math.MinInt + 1}
}

func TestPromise5PathCount(t *testing.T) {
	for m := range mostWalk + 1 {
		walks := countWalks(m, 0, func(at, up int) (int, bool) { return at + up, true })
		for x := -mostWalk - 1; x <= mostWalk+1; x++ {
			checkCount(t, walks[x])(impl.PathCount(m, x))
		}
		for _, x := range farPlaces() {
			checkCount(t, 0)(impl.PathCount(m, x))
		}
	}
}

func TestPromise5PathsAbove(t *testing.T) {
	for m := range mostWalk + 1 {
		for floor := -mostWalk; floor <= 0; floor++ {
			walks := countWalks(m, 0, func(at, up int) (int, bool) { return at + up, at+up >= floor })
			for x := -mostWalk - 1; x <= mostWalk+1; x++ {
				checkCount(t, walks[x])(impl.PathsAbove(m, x, floor))
			}
			for _, x := range farPlaces() {
				checkCount(t, 0)(impl.PathsAbove(m, x, floor))
			}
		}
	}
}

// The walks that come below a floor are as many as those to the place that lies as far below the
// number under the floor as their own place lies above it.
func TestPromise5PathsBelowAreTurnedOver(t *testing.T) {
	for m := range mostWalk + 1 {
		for floor := -mostWalk; floor <= 0; floor++ {
			for x := floor; x <= mostWalk; x++ {
				all, okAll := impl.PathCount(m, x)
				above, okAbove := impl.PathsAbove(m, x, floor)
				over, okOver := impl.PathCount(m, 2*(floor-1)-x)
				if !okAll || !okAbove || !okOver || all-above != over {
					t.Errorf("%d steps to %d from %d on: %d of %d; over %d", m, x, floor, above, all, over)
				}
			}
		}
	}
}

func TestPromise5FirstPassages(t *testing.T) {
	for m := 1; m <= mostWalk; m++ {
		for x := -mostWalk - 1; x <= mostWalk+1; x++ {
			if x == 0 {
				checkNoCount(t)(impl.FirstPassages(m, x))
				continue
			}
			// A walk that is at x goes on no further.
			walks := countWalks(m, 0, func(at, up int) (int, bool) { return at + up, at != x })
			checkCount(t, walks[x])(impl.FirstPassages(m, x))
		}
		for _, x := range farPlaces() {
			checkCount(t, 0)(impl.FirstPassages(m, x))
		}
	}
}

func TestPromise5CountsOfVotes(t *testing.T) {
	for p := range mostWalk + 1 {
		for q := range mostWalk - p + 1 {
			ahead := countWalks(p+q, 0, func(lead, up int) (int, bool) { return lead + up, lead+up > 0 })
			checkCount(t, ahead[p-q])(impl.BallotCount(p, q))
			fair := countWalks(p+q, 0, func(lead, up int) (int, bool) { return lead + up, lead+up >= 0 })
			checkCount(t, fair[p-q])(impl.TieCount(p, q))
		}
	}
	checkCount(t, 1)(impl.BallotCount(0, 0))
	checkCount(t, 1)(impl.TieCount(0, 0))
}

func TestPromise5NoVotesOrTooMany(t *testing.T) {
	for _, votes := range [][2]int{
		{mostWalk + 1, 0}, {0, mostWalk + 1}, {16, 15}, {15, 16}, {mostWalk, 1}, {1, mostWalk}, {mostWalk, mostWalk}, {-1, 0}, {0, -1}, {-1, -1}, {2, -1}, {-1, 2},
		{mostWalk + 1, -1}, {-1, mostWalk + 1}, {math.MaxInt, 0}, {0, math.MaxInt}, {math.MaxInt, math.MaxInt}, {math.MaxInt, 1}, {1, math.MaxInt},
		{math.MinInt, 0}, {0, math.MinInt}, {math.MinInt, math.MinInt}, {math.MinInt, math.MaxInt}, {math.MaxInt, math.MinInt}, {math.MinInt, 1},
	} {
		checkNoCount(t)(impl.BallotCount(votes[0], votes[1]))
		checkNoCount(t)(impl.TieCount(votes[0], votes[1]))
	}
}

func TestPromise5ReturnCounts(t *testing.T) {
	for m := 0; m <= mostWalk; m += 2 {
		walks := countWalks(m, marked{}, func(s marked, up int) (marked, bool) {
			if s.at+up == 0 {
				s.times++
			}
			return marked{s.at + up, s.times}, true
		})
		checkList(t, marksOf(walks, m/2))(impl.ReturnCounts(m))
	}
}

func TestPromise5LeadCounts(t *testing.T) {
	for m := 0; m <= mostWalk; m += 2 {
		walks := countWalks(m, marked{}, func(s marked, up int) (marked, bool) {
			if s.at > 0 || s.at+up > 0 {
				s.times++
			}
			return marked{s.at + up, s.times}, true
		})
		var want []int
		for r, count := range marksOf(walks, m) {
			if r%2 == 0 {
				want = append(want, count)
			}
		}
		checkList(t, want)(impl.LeadCounts(m))
	}
}

func TestPromise5LeadCountsAreProducts(t *testing.T) {
	for m := 0; m <= mostWalk; m += 2 {
		counts, ok := impl.LeadCounts(m)
		if !ok || len(counts) != m/2+1 {
			t.Errorf("LeadCounts(%d) = %v, %v", m, counts, ok)
		}
		for r, count := range counts {
			above, _ := impl.PathCount(2*r, 0)
			checkCount(t, count)(timesCount(above)(impl.PathCount(m-2*r, 0)))
		}
	}
}

// timesCount returns what multiplies the result of a call by a number.
func timesCount(n int) func(count int, ok bool) (int, bool) {
	return func(count int, ok bool) (int, bool) { return n * count, ok }
}

func TestPromise5WalksOfOtherSteps(t *testing.T) {
	checkNone := func(m int) {
		for name, call := range map[string]func(m int) ([]int, bool){"ReturnCounts": impl.ReturnCounts, "LeadCounts": impl.LeadCounts} {
			if got, ok := call(m); ok || len(got) > 0 {
				t.Errorf("%s(%d) = %v, %v", name, m, got, ok)
			}
		}
	}
	for m := 1; m < mostWalk; m += 2 {
		checkNone(m)
	}
	for _, m := range badSteps() {
		checkNone(m)
		for _, x := range []int{0, 1, -1, m, mostWalk} {
			checkNoCount(t)(impl.PathCount(m, x))
			checkNoCount(t)(impl.PathsAbove(m, x, 0))
			checkNoCount(t)(impl.FirstPassages(m, x))
		}
	}
	for _, x := range []int{0, 1, -1} {
		checkNoCount(t)(impl.FirstPassages(0, x))
	}
	for _, floor := range []int{1, -mostWalk - 1, 2, mostWalk, math.MaxInt, math.MinInt} {
		checkNoCount(t)(impl.PathsAbove(2, 0, floor))
		checkNoCount(t)(impl.PathsAbove(0, 0, floor))
		checkNoCount(t)(impl.PathsAbove(mostWalk, mostWalk, floor))
	}
}

func TestPromise5WalksOfKnownNumbers(t *testing.T) {
	checkCount(t, 1)(impl.PathCount(0, 0))
	checkCount(t, 0)(impl.PathCount(3, 0))
	checkCount(t, 6)(impl.PathCount(4, 0))
	checkCount(t, 155117520)(impl.PathCount(30, 0))
	checkCount(t, 1)(impl.PathCount(30, -30))
	checkCount(t, 1)(impl.PathsAbove(0, 0, 0))
	checkCount(t, 1)(impl.PathsAbove(0, 0, -30))
	checkCount(t, 2)(impl.PathsAbove(4, 0, 0))
	checkCount(t, 9694845)(impl.PathsAbove(30, 0, 0))
	checkCount(t, 155117519)(impl.PathsAbove(30, 0, -14))
	checkCount(t, 155117520)(impl.PathsAbove(30, 0, -15))
	checkCount(t, 1)(impl.PathsAbove(30, -30, -30))
	checkCount(t, 1)(impl.FirstPassages(1, -1))
	checkCount(t, 0)(impl.FirstPassages(2, 1))
	checkCount(t, 1)(impl.FirstPassages(3, 1))
	checkCount(t, 2674440)(impl.FirstPassages(29, 1))
	checkCount(t, 1)(impl.FirstPassages(30, -30))
	checkCount(t, 1)(impl.BallotCount(2, 1))
	checkCount(t, 0)(impl.BallotCount(1, 1))
	checkCount(t, 1)(impl.BallotCount(30, 0))
	checkCount(t, 0)(impl.BallotCount(0, 30))
	checkCount(t, 2)(impl.TieCount(2, 2))
	checkCount(t, 9694845)(impl.TieCount(15, 15))
	checkCount(t, 1)(impl.TieCount(30, 0))
	checkCount(t, 0)(impl.TieCount(0, 30))
	checkList(t, []int{1})(impl.ReturnCounts(0))
	checkList(t, []int{2, 2})(impl.ReturnCounts(2))
	checkList(t, []int{6, 6, 4})(impl.ReturnCounts(4))
	checkList(t, []int{1})(impl.LeadCounts(0))
	checkList(t, []int{2, 2})(impl.LeadCounts(2))
	checkList(t, []int{6, 4, 6})(impl.LeadCounts(4))
}
