package tests

import (
	"fmt"
	"math"
	"math/big"
	"slices"
	"testing"

	"loop.example/g01131/impl"
)

// isStopping counts the nodes of a strictly ascending list on the way to each end.
func isStopping(t impl.Tree, list []int) bool {
	for _, end := range leaves(t) {
		count := 0
		for _, x := range wayTo(t, end) {
			if slices.Contains(list, x) {
				count++
			}
		}
		if count != 1 {
			return false
		}
	}
	return true
}

// nodeLists returns all strictly ascending lists of nodes of a small tree.
func nodeLists(size int) [][]int {
	var lists [][]int
	for mask := range 1 << size {
		var list []int
		for x := range size {
			if mask>>x&1 == 1 {
				list = append(list, x)
			}
		}
		lists = append(lists, list)
	}
	return lists
}

func TestPromise3IsStoppingAndCountStopsOfSmallTrees(t *testing.T) {
	for size := 1; size <= 6; size++ {
		lists := nodeLists(size)
		for _, parents := range shapes(size) {
			tree := treeOf(parents, 1, 2, 3)
			count := 0
			for _, list := range lists {
				want := isStopping(tree, list)
				if got, ok := impl.IsStopping(tree, list); !ok || got != want {
					t.Errorf("IsStopping(%v, %v) = %v, %v", tree, list, got, ok)
				}
				if want {
					count++
				}
			}
			if got, ok := impl.CountStops(tree); !ok || got != count {
				t.Errorf("CountStops(%v) = %d, %v; want %d", tree, got, ok, count)
			}
		}
	}
}

func TestPromise3IsStoppingAndCountStops(t *testing.T) {
	for _, tree := range someTrees() {
		if got, ok := impl.CountStops(tree); !ok || got != len(allStops(tree, 0)) {
			t.Errorf("CountStops(%v) = %d, %v; want %d", tree, got, ok, len(allStops(tree, 0)))
		}
		for _, stop := range someStops(tree) {
			if is, ok := impl.IsStopping(tree, stop); !is || !ok {
				t.Errorf("IsStopping(%v, %v) = %v, %v", tree, stop, is, ok)
			}
		}
		for _, bad := range badStops(tree) {
			if is, ok := impl.IsStopping(tree, bad); is || !ok {
				t.Errorf("IsStopping(%v, %.9v) = %v, %v", tree, bad, is, ok)
			}
		}
	}
}

func TestPromise3CountStopsOfLargeTrees(t *testing.T) {
	threes := []int{-1}
	for x := 1; x <= 21; x += 3 {
		threes = append(threes, 0, x, x+1)
	}
	limits := limitTrees()
	for _, x := range []struct {
		tree impl.Tree
		want int
	}{
		{limits[0], 1}, {limits[2], mostNodes}, {limits[4], 2}, {treeOf(threes, 1), 3*3*3*3*3*3*3 + 1},
		{treeOf([]int{-1, 0, 1, 1, 2, 2, 3, 3}, 1), 6},
	} {
		if got, ok := impl.CountStops(x.tree); !ok || got != x.want {
			t.Errorf("CountStops(%v) = %d, %v; want %d", x.tree, got, ok, x.want)
		}
	}
}

func TestPromise3StopAt(t *testing.T) {
	for _, tree := range someTrees() {
		ends := leaves(tree)
		for _, stop := range someStops(tree) {
			for x := range tree.Parents {
				got, ok := impl.StopAt(tree, stop, x)
				if isEnd := slices.Contains(ends, x); ok != isEnd || isEnd && got != stopOn(tree, stop, x) || !isEnd && got != 0 {
					t.Errorf("StopAt(%v, %v, %d) = %d, %v", tree, stop, x, got, ok)
				}
			}
			for _, x := range []int{-1, len(tree.Parents), math.MaxInt, math.MinInt} {
				if got, ok := impl.StopAt(tree, stop, x); ok || got != 0 {
					t.Errorf("StopAt(%v, %v, %d) = %d, %v", tree, stop, x, got, ok)
				}
			}
		}
	}
}

func TestPromise3StoppedProcessesAndMeans(t *testing.T) {
	for _, tree := range someTrees() {
		for _, p := range someProcesses(tree) {
			isFair, _ := impl.IsFairProcess(tree, p)
			for _, stop := range someStops(tree) {
				checkStopped(t, tree, p, stop)
				mean, ok := impl.StoppedMean(tree, p, stop)
				if isFair && (!ok || mean != [2]int{p[0], 1}) {
					t.Errorf("%v is fair on %v, but its stopped mean at %v is %v", p, tree, stop, mean)
				}
			}
		}
	}
}

// checkStopped checks the process that is stopped and its mean, which is that of the stopped
// process at the ends too.
func checkStopped(t *testing.T, tree impl.Tree, p []int, stop []int) {
	t.Helper()
	want := slices.Clone(p)
	for x := range want {
		if node := stopOn(tree, stop, x); node >= 0 {
			want[x] = p[node]
		}
	}
	got, ok := impl.StoppedProcess(tree, p, stop)
	if !ok || !slices.Equal(got, want) {
		t.Errorf("StoppedProcess(%v, %v, %v) = %v, %v", tree, p, stop, got, ok)
	}
	sum := rat(0, 1)
	for _, x := range stop {
		sum.Add(sum, rat(p[x]*weightBelow(tree, x), weightBelow(tree, 0)))
	}
	mean, ok := impl.StoppedMean(tree, p, stop)
	checkFraction(t, fmt.Sprint("StoppedMean", tree, p, stop), mean, ok, sum)
	if sum.Cmp(meanOfEnds(tree, want)) != 0 {
		t.Errorf("%v stopped at %v has the mean %v at the ends of %v, not %v", p, stop, meanOfEnds(tree, want), tree, sum)
	}
}

// levelsOf returns the numbers of a process, those next to them, and the least and greatest int.
func levelsOf(p []int) []int {
	levels := []int{0, mostPay + 1, -mostPay - 1, math.MaxInt, math.MinInt}
	for _, n := range p[:min(len(p), 4)] {
		levels = append(levels, n-1, n, n+1)
	}
	return levels
}

func TestPromise3FirstEntry(t *testing.T) {
	for _, tree := range someTrees() {
		for _, p := range someProcesses(tree) {
			for _, level := range levelsOf(p) {
				var nodes []int
				for _, end := range leaves(tree) {
					way := wayTo(tree, end)
					i := slices.IndexFunc(way, func(x int) bool { return p[x] >= level })
					if i < 0 {
						i = len(way) - 1
					}
					nodes = append(nodes, way[i])
				}
				got, ok := impl.FirstEntry(tree, p, level)
				if !ok || !slices.Equal(got, stopOf(nodes)) {
					t.Errorf("FirstEntry(%v, %v, %d) = %v, %v", tree, p, level, got, ok)
				}
				if !isStopping(tree, got) {
					t.Errorf("FirstEntry(%v, %v, %d) = %v, which is no stopping", tree, p, level, got)
				}
			}
		}
	}
}

func TestPromise3EarlierAndLaterStops(t *testing.T) {
	for _, tree := range someTrees() {
		stops := someStops(tree)
		for _, a := range stops {
			for _, b := range stops {
				var first, last []int
				for _, end := range leaves(tree) {
					x, y := stopOn(tree, a, end), stopOn(tree, b, end)
					if depthOf(tree, x) > depthOf(tree, y) {
						x, y = y, x
					}
					first, last = append(first, x), append(last, y)
				}
				if got, ok := impl.EarlierStop(tree, a, b); !ok || !slices.Equal(got, stopOf(first)) {
					t.Errorf("EarlierStop(%v, %v, %v) = %v, %v", tree, a, b, got, ok)
				}
				if got, ok := impl.LaterStop(tree, a, b); !ok || !slices.Equal(got, stopOf(last)) {
					t.Errorf("LaterStop(%v, %v, %v) = %v, %v", tree, a, b, got, ok)
				}
			}
		}
	}
}

func TestPromise3FallingProcessesHaveNoGreaterMeanLater(t *testing.T) {
	for _, tree := range someTrees() {
		rolls := &dice{uint64(len(tree.Parents))}
		for _, first := range []int{0, 5, mostPay} {
			p := fallingProcess(rolls, tree, first)
			if falls, ok := impl.IsFalling(tree, p); !ok || !falls {
				t.Errorf("IsFalling(%v, %v) = %v, %v", tree, p, falls, ok)
			}
			stops := someStops(tree)
			for i, a := range stops {
				b := stops[(i*3+1)%len(stops)]
				early, _ := impl.EarlierStop(tree, a, b)
				late, _ := impl.LaterStop(tree, a, b)
				before, okBefore := impl.StoppedMean(tree, p, early)
				after, okAfter := impl.StoppedMean(tree, p, late)
				if order, ok := impl.CompareFractions(after, before); !ok || !okBefore || !okAfter || order > 0 {
					t.Errorf("%v falls on %v, but has %v at %v and %v at %v", p, tree, before, early, after, late)
				}
			}
		}
	}
}

func TestPromise3OtherListsAreNoStoppings(t *testing.T) {
	for _, tree := range limitTrees() {
		for _, bad := range badStops(tree) {
			checkNoStopping(t, tree, bad)
		}
	}
	for _, tree := range badTrees() {
		for _, stop := range [][]int{nil, {0}, {1}, {0, 1}, {1, 2}} {
			checkNoStopping(t, tree, stop)
			if is, ok := impl.IsStopping(tree, stop); is || ok {
				t.Errorf("IsStopping(%v) = %v, %v", stop, is, ok)
			}
		}
		if got, ok := impl.CountStops(tree); ok || got != 0 {
			t.Errorf("CountStops = %d, %v", got, ok)
		}
	}
}

func checkNoStopping(t *testing.T, tree impl.Tree, bad []int) {
	t.Helper()
	p := make([]int, min(len(tree.Parents), mostNodes))
	for x := range len(p) {
		if got, ok := impl.StopAt(tree, bad, x); ok || got != 0 {
			t.Errorf("StopAt(%.9v, %d) = %v, %v", bad, x, got, ok)
		}
	}
	stopped, ok := impl.StoppedProcess(tree, p, bad)
	mean, okMean := impl.StoppedMean(tree, p, bad)
	if ok || okMean || len(stopped) > 0 || mean != [2]int{} {
		t.Errorf("stopped at %.9v: %v %v, %v %v", bad, stopped, ok, mean, okMean)
	}
	for _, x := range [][2][]int{{bad, {0}}, {{0}, bad}, {bad, bad}} {
		early, ok := impl.EarlierStop(tree, x[0], x[1])
		late, okLate := impl.LaterStop(tree, x[0], x[1])
		if ok || okLate || len(early)+len(late) > 0 {
			t.Errorf("EarlierStop and LaterStop of %.9v: %v %v, %v %v", x, early, ok, late, okLate)
		}
	}
}

// crossingsOf counts how often a low number is followed by a high one if all others are left
// out.
func crossingsOf(p []int, way []int, low int, high int) int {
	sides := []bool{}
	for _, x := range way {
		if p[x] <= low || p[x] >= high {
			sides = append(sides, p[x] >= high)
		}
	}
	count := 0
	for i := 1; i < len(sides); i++ {
		if !sides[i-1] && sides[i] {
			count++
		}
	}
	return count
}

func TestPromise3Crossings(t *testing.T) {
	for _, tree := range someTrees() {
		for _, p := range someProcesses(tree) {
			levels := levelsOf(p)
			for i, low := range levels {
				for _, high := range append([]int{low + 1}, levels[i/2:min(i/2+6, len(levels))]...) {
					checkCrossings(t, tree, p, low, high)
				}
			}
		}
	}
}

func checkCrossings(t *testing.T, tree impl.Tree, p []int, low int, high int) {
	t.Helper()
	got, ok := impl.Crossings(tree, p, low, high)
	if low >= high {
		if ok || len(got) > 0 {
			t.Errorf("Crossings(%v, %v, %d, %d) = %v, %v", tree, p, low, high, got, ok)
		}
		return
	}
	var want []int
	for _, end := range leaves(tree) {
		want = append(want, crossingsOf(p, wayTo(tree, end), low, high))
	}
	if !ok || !slices.Equal(got, want) {
		t.Errorf("Crossings(%v, %v, %d, %d) = %v, %v; want %v", tree, p, low, high, got, ok, want)
	}
}

func TestPromise3MostCrossings(t *testing.T) {
	chain := limitTrees()[2]
	p := make([]int, mostNodes)
	for x := range p {
		p[x] = x % 2
	}
	for _, x := range []struct{ low, high, want int }{
		{0, 1, mostNodes / 2}, {-1, 1, 0}, {0, 2, 0}, {1, 2, 0}, {-1, 0, 0}, {math.MinInt, math.MaxInt, 0}, {math.MinInt, 0, 0},
	} {
		if got, ok := impl.Crossings(chain, p, x.low, x.high); !ok || !slices.Equal(got, []int{x.want}) {
			t.Errorf("Crossings(%v, %d, %d) = %v, %v", p, x.low, x.high, got, ok)
		}
	}
	for _, x := range [][2]int{{0, 0}, {1, 0}, {math.MaxInt, math.MinInt}, {math.MaxInt, math.MaxInt}, {math.MinInt, math.MinInt}} {
		checkCrossings(t, chain, p, x[0], x[1])
	}
}

func TestPromise3HighestOf(t *testing.T) {
	for _, tree := range someTrees() {
		for _, p := range someProcesses(tree) {
			var want []int
			for _, end := range leaves(tree) {
				most := math.MinInt
				for _, x := range wayTo(tree, end) {
					most = max(most, p[x])
				}
				want = append(want, most)
			}
			if got, ok := impl.HighestOf(tree, p); !ok || !slices.Equal(got, want) {
				t.Errorf("HighestOf(%v, %v) = %v, %v", tree, p, got, ok)
			}
		}
	}
}

func TestPromise3HighNumbersAreRareOnFallingProcesses(t *testing.T) {
	for _, tree := range someTrees() {
		rolls := &dice{uint64(len(tree.Parents))}
		for _, first := range []int{0, 3, 40, mostPay} {
			p := fallingProcess(rolls, tree, first)
			highest, _ := impl.HighestOf(tree, p)
			for _, level := range levelsOf(p)[3:] {
				chance := rat(0, 1)
				for i, end := range leaves(tree) {
					if highest[i] >= level {
						chance.Add(chance, rat(tree.Weights[end], weightBelow(tree, 0)))
					}
				}
				if product := chance.Mul(chance, new(big.Rat).SetInt64(int64(level))); level >= 1 && product.Cmp(rat(p[0], 1)) > 0 {
					t.Errorf("%v falls on %v, but the level %d times its chance is %v", p, tree, level, product)
				}
			}
		}
	}
}

func TestPromise3OneNode(t *testing.T) {
	one := treeOf([]int{-1}, 7)
	for _, n := range []int{0, 1, mostPay, -mostPay} {
		p := []int{n}
		drifts, ok := impl.DriftsOf(one, p)
		fair, okFair := impl.IsFairProcess(one, p)
		falls, okFalls := impl.IsFalling(one, p)
		if !ok || !okFair || !okFalls || !fair || !falls || !slices.Equal(drifts, [][2]int{{0, 1}}) {
			t.Errorf("drifts of %d: %v, %v, %v", n, drifts, fair, falls)
		}
		first, second, ok := impl.DoobParts(one, p)
		if !ok || !slices.Equal(first, [][2]int{{n, 1}}) || !slices.Equal(second, [][2]int{{0, 1}}) {
			t.Errorf("DoobParts of %d: %v, %v, %v", n, first, second, ok)
		}
		mean, ok := impl.StoppedMean(one, p, []int{0})
		if !ok || mean != [2]int{n, 1} {
			t.Errorf("StoppedMean of %d: %v, %v", n, mean, ok)
		}
		checkList(t, []int{0})(impl.StakeGains(one, p, []int{mostStake}))
		checkList(t, []int{0})(impl.EarlierStop(one, []int{0}, []int{0}))
		checkList(t, []int{0})(impl.LaterStop(one, []int{0}, []int{0}))
		checkList(t, []int{0})(impl.Crossings(one, p, n-1, n))
		checkList(t, []int{0})(impl.FirstEntry(one, p, n+1))
		checkList(t, p)(impl.FairProcess(one, p))
		checkList(t, p)(impl.StoppedProcess(one, p, []int{0}))
		checkList(t, p)(impl.HighestOf(one, p))
	}
	at, ok := impl.StopAt(one, []int{0}, 0)
	if count, okCount := impl.CountStops(one); !ok || !okCount || at != 0 || count != 1 {
		t.Errorf("StopAt %d, %v, CountStops %d, %v", at, ok, count, okCount)
	}
}

// checkList returns what checks the results of a call that must return a list.
func checkList(t *testing.T, want []int) func(got []int, ok bool) {
	return func(got []int, ok bool) {
		t.Helper()
		if !ok || !slices.Equal(got, want) {
			t.Errorf("%v, %v; want %v", got, ok, want)
		}
	}
}
