package tests

import (
	"fmt"
	"math/big"
	"slices"
	"testing"

	"loop.example/g01131/impl"
)

func TestPromise3Limits(t *testing.T) {
	if impl.MaxStake != mostStake {
		t.Error("limit of stakes", impl.MaxStake)
	}
}

func TestPromise3IsProcess(t *testing.T) {
	for _, tree := range someTrees() {
		for _, p := range someProcesses(tree) {
			if is, ok := impl.IsProcess(tree, p); !is || !ok {
				t.Errorf("IsProcess(%v, %v) = %v, %v", tree, p, is, ok)
			}
		}
		for _, bad := range badNumbers(len(tree.Parents), mostPay) {
			if is, ok := impl.IsProcess(tree, bad); is || !ok {
				t.Errorf("IsProcess(%v, %.9v) = %v, %v", tree, bad, is, ok)
			}
		}
	}
	for i, tree := range badTrees() {
		for _, p := range [][]int{nil, {0}, {1, 2}, {1, 2, 3}, make([]int, len(tree.Parents))} {
			if is, ok := impl.IsProcess(tree, p); is || ok {
				t.Errorf("IsProcess of the bad Tree %d, %.9v = %v, %v", i, p, is, ok)
			}
		}
	}
}

func TestPromise3Drifts(t *testing.T) {
	kinds := map[string]int{}
	for _, tree := range someTrees() {
		for _, p := range someProcesses(tree) {
			drifts, ok := impl.DriftsOf(tree, p)
			if !ok || len(drifts) != len(p) {
				t.Fatalf("DriftsOf(%v, %v) = %v, %v", tree, p, drifts, ok)
			}
			isFair, isFalling := true, true
			for x, drift := range drifts {
				want := driftAt(tree, p, x)
				checkFraction(t, fmt.Sprint("DriftsOf", tree, p, "at", x), drift, ok, want)
				isFair = isFair && want.Sign() == 0
				isFalling = isFalling && want.Sign() <= 0
			}
			kinds[fmt.Sprint(isFair, isFalling)]++
			if got, ok := impl.IsFairProcess(tree, p); !ok || got != isFair {
				t.Errorf("IsFairProcess(%v, %v) = %v, %v", tree, p, got, ok)
			}
			if got, ok := impl.IsFalling(tree, p); !ok || got != isFalling {
				t.Errorf("IsFalling(%v, %v) = %v, %v", tree, p, got, ok)
			}
		}
	}
	if len(kinds) != 3 {
		t.Errorf("not all kinds of processes: %v", kinds)
	}
}

func TestPromise3FairAndFallingByOneDrift(t *testing.T) {
	tree := impl.Tree{Parents: []int{-1, 0, 0, 2, 2}, Weights: []int{0, 1, 0, 1, 2}}
	for _, x := range []struct {
		p             []int
		fair, falling bool
	}{
		{[]int{2, -1, 3, 7, 1}, true, true}, {[]int{3, -1, 3, 7, 1}, false, true}, {[]int{1, -1, 3, 7, 1}, false, false},
		{[]int{2, -1, 3, 6, 1}, false, true}, {[]int{2, -1, 3, 8, 1}, false, false}, {[]int{3, -1, 3, 8, 1}, false, false},
		{[]int{1, -1, 3, 6, 1}, false, false}, {[]int{3, -1, 3, 6, 1}, false, true},
		{[]int{999, 999, 999, 999, 999}, true, true}, {[]int{999, 999, 999, 999, 998}, false, true}, {[]int{-999, -999, -999, -998, -999}, false, false},
	} {
		if got, ok := impl.IsFairProcess(tree, x.p); !ok || got != x.fair {
			t.Errorf("IsFairProcess(%v) = %v, %v", x.p, got, ok)
		}
		if got, ok := impl.IsFalling(tree, x.p); !ok || got != x.falling {
			t.Errorf("IsFalling(%v) = %v, %v", x.p, got, ok)
		}
	}
}

func TestPromise3FairProcess(t *testing.T) {
	for _, tree := range someTrees() {
		lists := somePays(tree)
		for _, p := range someProcesses(tree) {
			var pays []int
			for _, end := range leaves(tree) {
				pays = append(pays, p[end])
			}
			lists = append(lists, pays)
			if is, _ := impl.IsFairProcess(tree, p); !is {
				continue
			}
			if made, ok := impl.FairProcess(tree, pays); !ok || !slices.Equal(made, p) {
				t.Errorf("FairProcess(%v, %v) = %v, %v; %v is fair", tree, pays, made, ok, p)
			}
		}
		for _, pays := range lists {
			checkFairProcess(t, tree, pays)
		}
	}
}

func checkFairProcess(t *testing.T, tree impl.Tree, pays []int) {
	t.Helper()
	var want []int
	for x := range tree.Parents {
		if mean := meanBelow(tree, x, pays); mean.IsInt() {
			want = append(want, int(mean.Num().Int64()))
		}
	}
	areInts := len(want) == len(tree.Parents)
	got, ok := impl.FairProcess(tree, pays)
	if ok != areInts || areInts && !slices.Equal(got, want) || !areInts && len(got) > 0 {
		t.Errorf("FairProcess(%v, %v) = %v, %v", tree, pays, got, ok)
	}
}

func TestPromise3FairProcessNeedsIntegersEverywhere(t *testing.T) {
	tree := impl.Tree{Parents: []int{-1, 0, 0, 1, 1, 2, 2}, Weights: []int{0, 0, 0, 1, 1, 1, 1}}
	for _, x := range []struct {
		pays []int
		ok   bool
	}{
		{[]int{0, 2, 4, 6}, true}, {[]int{0, 1, 4, 5}, false}, {[]int{0, 1, 2, 3}, false}, {[]int{0, 2, 4, 4}, false},
		{[]int{0, 1, 0, 0}, false}, {[]int{-999, 999, -999, 999}, true}, {[]int{-999, -999, -999, -999}, true},
	} {
		if p, ok := impl.FairProcess(tree, x.pays); ok != x.ok || !ok && len(p) > 0 {
			t.Errorf("FairProcess(%v) = %v, %v", x.pays, p, ok)
		}
	}
}

// doobParts returns the parts of a process as numbers without limits.
func doobParts(t impl.Tree, p []int) ([]*big.Rat, []*big.Rat) {
	var first, second []*big.Rat
	for x := range p {
		sum := rat(0, 1)
		for _, y := range wayTo(t, x) {
			if y != x {
				sum.Add(sum, driftAt(t, p, y))
			}
		}
		second = append(second, sum)
		first = append(first, new(big.Rat).Sub(rat(p[x], 1), sum))
	}
	return first, second
}

// areFractions reports whether numbers are in the limits of fractions.
func areFractions(numbers []*big.Rat) bool {
	return !slices.ContainsFunc(numbers, func(n *big.Rat) bool {
		return n.Num().CmpAbs(big.NewInt(mostTop)) > 0 || n.Denom().Cmp(big.NewInt(mostBottom)) > 0
	})
}

// checkDoobParts checks the parts of a process, and reports which of them are fractions.
func checkDoobParts(t *testing.T, tree impl.Tree, p []int) (bool, bool) {
	t.Helper()
	first, second := doobParts(tree, p)
	fair, known, ok := impl.DoobParts(tree, p)
	if !areFractions(first) || !areFractions(second) {
		if ok || len(fair)+len(known) > 0 {
			t.Errorf("DoobParts(%v, %v) = %v, %v, %v; not all are fractions", tree, p, fair, known, ok)
		}
		return areFractions(first), areFractions(second)
	}
	if !ok || len(fair) != len(p) || len(known) != len(p) {
		t.Fatalf("DoobParts(%v, %v) = %v, %v, %v", tree, p, fair, known, ok)
	}
	for x := range p {
		checkFraction(t, fmt.Sprint("first of DoobParts", tree, p, "at", x), fair[x], ok, first[x])
		checkFraction(t, fmt.Sprint("second of DoobParts", tree, p, "at", x), known[x], ok, second[x])
		checkMeanOfChildren(t, tree, fair, x)
	}
	return true, true
}

func TestPromise3DoobParts(t *testing.T) {
	good, bad := 0, 0
	for _, tree := range someTrees() {
		for _, p := range someProcesses(tree) {
			if first, second := checkDoobParts(t, tree, p); first && second {
				good++
			} else {
				bad++
			}
		}
	}
	if good == 0 || bad == 0 {
		t.Errorf("%d processes have parts, %d have none", good, bad)
	}
}

// The sums of the first three nodes on the only long way are different primes, so that parts
// are next to the limits.
func TestPromise3DoobPartsAtTheLimits(t *testing.T) {
	parents := []int{-1, 0, 0, 1, 1, 3, 3, 3, 3, 3}
	kinds := map[[2]bool]int{}
	rolls := &dice{3}
	for range 400 {
		tree := treeOf(parents, 6, 8, 20, 20, 20, 20, 9)
		// With 19 in place of 9 the product of the sums is greater than the greatest denominator.
		if rolls.below(4) == 0 {
			tree = treeOf(parents, 6, 8, 20, 20, 20, 20, 19)
		}
		p := make([]int, len(parents))
		for x := range p {
			p[x] = []int{mostPay, -mostPay, rolls.between(-mostPay, mostPay)}[rolls.below(3)]
		}
		// A way from the least number to the greatest one has second parts beyond both of them.
		if rolls.below(4) == 0 {
			copy(p, []int{-mostPay, 0, rolls.between(0, mostPay), 500, rolls.between(0, mostPay), 990, 991, 993, 996, mostPay})
		}
		first, second := checkDoobParts(t, tree, p)
		kinds[[2]bool{first, second}]++
	}
	for _, first := range []bool{false, true} {
		for _, second := range []bool{false, true} {
			if kinds[[2]bool{first, second}] == 0 {
				t.Errorf("no process whose parts are fractions: %v, %v", first, second)
			}
		}
	}
}

func TestPromise3StakeGains(t *testing.T) {
	for _, tree := range someTrees() {
		for _, p := range someProcesses(tree) {
			isFair, _ := impl.IsFairProcess(tree, p)
			for _, stakes := range someStakes(tree) {
				gains, ok := impl.StakeGains(tree, p, stakes)
				if !ok || !slices.Equal(gains, gainsOf(tree, p, stakes)) {
					t.Fatalf("StakeGains(%v, %v, %v) = %v, %v", tree, p, stakes, gains, ok)
				}
				if mean := meanOfEnds(tree, gains); isFair && mean.Sign() != 0 {
					t.Errorf("%v: %v is fair, but the gains of %v have the mean %v", tree, p, stakes, mean)
				}
			}
		}
	}
}

// gainsOf adds up the gains of all steps on the way to each node.
func gainsOf(t impl.Tree, p []int, stakes []int) []int {
	gains := make([]int, len(p))
	for x := range gains {
		way := wayTo(t, x)
		for i := 1; i < len(way); i++ {
			gains[x] += stakes[way[i-1]] * (p[way[i]] - p[way[i-1]])
		}
	}
	return gains
}

// meanOfEnds returns the mean of the numbers of the ends at the root.
func meanOfEnds(t impl.Tree, numbers []int) *big.Rat {
	var ends []int
	for _, end := range leaves(t) {
		ends = append(ends, numbers[end])
	}
	return meanBelow(t, 0, ends)
}

func TestPromise3GreatestGains(t *testing.T) {
	chain := limitTrees()[3]
	p, stakes := make([]int, mostNodes), make([]int, mostNodes)
	for x := range p {
		p[x] = mostPay * (x%2*2 - 1)
		stakes[x] = mostStake * (1 - x%2*2)
	}
	gains, ok := impl.StakeGains(chain, p, stakes)
	if want := (mostNodes - 1) * mostStake * 2 * mostPay; !ok || gains[mostNodes-1] != want {
		t.Errorf("StakeGains(%v, %v) = %v, %v", p, stakes, gains, ok)
	}
}

func TestPromise3OtherListsAreNoProcesses(t *testing.T) {
	for _, tree := range limitTrees() {
		size := len(tree.Parents)
		good := make([]int, size)
		for _, bad := range badNumbers(size, mostPay) {
			checkNoProcess(t, tree, bad)
		}
		for _, bad := range badNumbers(size, mostStake) {
			if gains, ok := impl.StakeGains(tree, good, bad); ok || len(gains) > 0 {
				t.Errorf("StakeGains(%v, %.9v) = %v, %v", tree, bad, gains, ok)
			}
		}
		for _, bad := range badPays(tree) {
			if p, ok := impl.FairProcess(tree, bad); ok || len(p) > 0 {
				t.Errorf("FairProcess(%v, %.9v) = %v, %v", tree, bad, p, ok)
			}
		}
	}
	for _, tree := range badTrees() {
		for _, p := range [][]int{nil, {0}, {1, 2}, make([]int, len(tree.Parents))} {
			checkNoProcess(t, tree, p)
			if made, ok := impl.FairProcess(tree, p); ok || len(made) > 0 {
				t.Errorf("FairProcess(%.9v) = %v, %v", p, made, ok)
			}
		}
	}
}

// checkNoProcess calls the functions of this chapter that have a process as an argument; all
// others are valid if the tree is.
func checkNoProcess(t *testing.T, tree impl.Tree, p []int) {
	t.Helper()
	drifts, ok := impl.DriftsOf(tree, p)
	fair, okFair := impl.IsFairProcess(tree, p)
	falling, okFalling := impl.IsFalling(tree, p)
	if ok || okFair || okFalling || fair || falling || len(drifts) > 0 {
		t.Errorf("drifts of %.9v: %v %v, %v %v, %v %v", p, drifts, ok, fair, okFair, falling, okFalling)
	}
	first, second, ok := impl.DoobParts(tree, p)
	gains, okGains := impl.StakeGains(tree, p, make([]int, min(len(tree.Parents), mostNodes)))
	if ok || okGains || len(first)+len(second)+len(gains) > 0 {
		t.Errorf("parts and gains of %.9v: %v %v %v, %v %v", p, first, second, ok, gains, okGains)
	}
	stopped, ok := impl.StoppedProcess(tree, p, []int{0})
	mean, okMean := impl.StoppedMean(tree, p, []int{0})
	if ok || okMean || len(stopped) > 0 || mean != [2]int{} {
		t.Errorf("%.9v stopped at the root: %v %v, %v %v", p, stopped, ok, mean, okMean)
	}
	entry, ok := impl.FirstEntry(tree, p, 0)
	times, okTimes := impl.Crossings(tree, p, 0, 1)
	highest, okHighest := impl.HighestOf(tree, p)
	if ok || okTimes || okHighest || len(entry)+len(times)+len(highest) > 0 {
		t.Errorf("ways of %.9v: %v %v, %v %v, %v %v", p, entry, ok, times, okTimes, highest, okHighest)
	}
}
