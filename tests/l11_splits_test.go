package tests

import (
	"math"
	"slices"
	"testing"

	"loop.example/g01131/impl"
)

// splitGrowth multiplies the numbers of a split, each as often as its runner has weight.
func splitGrowth(weights []int, split []int) int {
	product := 1
	for runner, weight := range weights {
		for range weight {
			product *= split[runner]
		}
	}
	return product
}

// eachSplit calls visit with all splits of n, the lexicographically first one first.
func eachSplit(runners int, n int, visit func(split []int)) {
	tuples(facesOf(n+1), runners, func(list []int) {
		if sumOf(list) == n {
			visit(list)
		}
	})
}

func TestPromise11SplitGrowths(t *testing.T) {
	for runners := 1; runners <= mostRunners; runners++ {
		for n := range mostSplit + 1 {
			eachSplit(runners, n, func(split []int) {
				tuples([]int{1, 2, mostLuck}, runners, func(weights []int) {
					checkCount(t, splitGrowth(weights, split))(impl.SplitGrowth(weights, split))
				})
			})
		}
	}
	checkCount(t, 4)(impl.SplitGrowth([]int{2, 1}, []int{2, 1}))
	checkCount(t, 20736)(impl.SplitGrowth([]int{mostLuck}, []int{mostSplit}))
	checkCount(t, 43046721)(impl.SplitGrowth([]int{4, 4, 4, 4}, []int{3, 3, 3, 3}))
	checkCount(t, 0)(impl.SplitGrowth([]int{1}, []int{0}))
	checkCount(t, 0)(impl.SplitGrowth([]int{1, 1, 1, 1}, []int{4, 4, 4, 0}))
	checkCount(t, 72)(impl.SplitGrowth([]int{1, 2, 3}, []int{2, 6, 1}))
	checkCount(t, 96)(impl.SplitGrowth([]int{1, 2, 3}, []int{3, 2, 2}))
}

func TestPromise11BestSplits(t *testing.T) {
	ties := 0
	eachRace(func(weights []int) {
		for n := range mostSplit + 1 {
			var best []int
			greatest := -1
			eachSplit(len(weights), n, func(split []int) {
				growth := splitGrowth(weights, split)
				if growth == greatest {
					ties++
				}
				if growth > greatest {
					best, greatest = slices.Clone(split), growth
				}
			})
			checkList(t, best)(impl.BestSplit(weights, n))
			checkCount(t, greatest)(impl.SplitGrowth(weights, best))
		}
	})
	if ties == 0 {
		t.Error("no race has several best splits")
	}
}

// Each number of the best split of a multiple of all weights is that multiple of its weight.
func TestPromise11SplitsOfMultiples(t *testing.T) {
	eachRace(func(weights []int) {
		for times := 0; times*sumOf(weights) <= mostSplit; times++ {
			var want []int
			for _, weight := range weights {
				want = append(want, times*weight)
			}
			checkList(t, want)(impl.BestSplit(weights, times*sumOf(weights)))
		}
	})
}

func TestPromise11KnownBestSplits(t *testing.T) {
	for _, x := range []struct {
		weights []int
		n       int
		want    []int
	}{
		{[]int{2, 1}, 3, []int{2, 1}}, {[]int{1}, 0, []int{0}}, {[]int{mostLuck}, mostSplit, []int{mostSplit}}, {[]int{1, 1, 1, 1}, mostSplit, []int{3, 3, 3, 3}}, {[]int{1, 2}, 12, []int{4, 8}}, {[]int{3, 1}, 9, []int{7, 2}},
		// Several splits are best, all of them if there is not one for each runner.
		{[]int{1, 1}, 3, []int{1, 2}}, {[]int{1, 1}, 1, []int{0, 1}}, {[]int{4, 1}, 1, []int{0, 1}}, {[]int{1, 1, 1}, 4, []int{1, 1, 2}}, {[]int{4, 3, 2, 1}, 3, []int{0, 0, 0, 3}}, {[]int{1, 1, 1, 1}, 4, []int{1, 1, 1, 1}}, {[]int{1, 1, 1, 1}, 6, []int{1, 1, 2, 2}}, {[]int{1, 2, 3, 4}, 0, []int{0, 0, 0, 0}},
	} {
		checkList(t, x.want)(impl.BestSplit(x.weights, x.n))
	}
}

func TestPromise11NoRaces(t *testing.T) {
	for _, weights := range badRaces() {
		for _, split := range [][]int{nil, {0}, {1}, {2, 1}, {1, 1, 1}, {1, 1, 1, 1}, {1, 1, 1, 1, 1}, make([]int, len(weights)), weights} {
			checkNoCount(t)(impl.SplitGrowth(weights, split))
		}
		for _, n := range []int{0, 1, 5, mostSplit} {
			checkNoList(t)(impl.BestSplit(weights, n))
		}
	}
}

// badSplits returns lists that are no splits, by a number, by their sum or by the number of runners.
func badSplits(runners int) [][]int {
	lists := [][]int{nil, {}, make([]int, runners-1), make([]int, runners+1), slices.Repeat([]int{1}, runners-1), slices.Repeat([]int{1}, runners+1), make([]int, 1<<16)}
	for _, bad := range []int{-1, -mostSplit, mostSplit + 1, math.MaxInt, math.MinInt, 1 << 62} {
		for i := range runners {
			// The sum may be 1 all the same, or the greatest one, or come to be so as it is too great.
			for _, sum := range []int{bad, 1, mostSplit} {
				list := make([]int, runners)
				list[i] = bad
				list[(i+1)%runners] += sum - bad
				if !areFrom(list, 0, mostSplit) {
					lists = append(lists, list)
				}
			}
		}
		lists = append(lists, slices.Repeat([]int{bad}, runners))
	}
	for i := range runners {
		// The sum is one too great.
		list := make([]int, runners)
		list[i] = mostSplit
		list[(i+1)%runners]++
		lists = append(lists, list)
	}
	return lists
}

func TestPromise11NoSplits(t *testing.T) {
	eachRace(func(weights []int) {
		for _, split := range badSplits(len(weights)) {
			checkNoCount(t)(impl.SplitGrowth(weights, split))
		}
		for _, n := range []int{-1, mostSplit + 1, -mostSplit, math.MaxInt, math.MinInt} {
			checkNoList(t)(impl.BestSplit(weights, n))
		}
	})
	checkNoCount(t)(impl.SplitGrowth([]int{1}, []int{mostSplit + 1}))
	checkNoCount(t)(impl.SplitGrowth([]int{1, 1, 1, 1}, []int{4, 4, 4, 1}))
	checkNoCount(t)(impl.SplitGrowth([]int{1, 1}, []int{-1, 2}))
	checkNoCount(t)(impl.SplitGrowth([]int{1, 1}, []int{1}))
	checkNoCount(t)(impl.SplitGrowth([]int{1}, []int{1, 0}))
}
