package tests

import (
	"fmt"
	"math"
	"math/big"
	"slices"
	"testing"

	"loop.example/g01131/impl"
)

// badPays returns lists that are no pays of a tree.
func badPays(t impl.Tree) [][]int {
	size := len(leaves(t))
	bad := [][]int{make([]int, size+1), make([]int, size-1), make([]int, 1<<20)}
	for _, pay := range []int{mostPay + 1, -mostPay - 1, math.MaxInt, math.MinInt} {
		for _, i := range []int{0, size - 1} {
			pays := make([]int, size)
			pays[i] = pay
			bad = append(bad, pays)
		}
	}
	return bad
}

// meanBelow returns the mean of numbers of the ends that are x or below it.
func meanBelow(t impl.Tree, x int, numbers []int) *big.Rat {
	sum := rat(0, 1)
	for i, end := range leaves(t) {
		if isAtOrBelow(t, end, x) {
			sum.Add(sum, rat(t.Weights[end]*numbers[i], weightBelow(t, x)))
		}
	}
	return sum
}

func TestPromise2MeansOf(t *testing.T) {
	for _, tree := range someTrees() {
		for _, pays := range somePays(tree) {
			means, ok := impl.MeansOf(tree, pays)
			if !ok || len(means) != len(tree.Parents) {
				t.Fatalf("MeansOf(%v, %v) = %v, %v", tree, pays, means, ok)
			}
			for x, mean := range means {
				checkFraction(t, fmt.Sprint("MeansOf", tree, pays, "at", x), mean, ok, meanBelow(tree, x, pays))
				checkMeanOfChildren(t, tree, means, x)
			}
		}
	}
}

func checkMeanOfChildren(t *testing.T, tree impl.Tree, means [][2]int, x int) {
	t.Helper()
	children, _ := impl.ChildrenOf(tree, x)
	sums, _ := impl.SumsOf(tree)
	if len(children) == 0 {
		return
	}
	mean := rat(0, 1)
	for _, child := range children {
		mean.Add(mean, new(big.Rat).Mul(rat(sums[child], sums[x]), exact(means[child])))
	}
	if mean.Cmp(exact(means[x])) != 0 {
		t.Errorf("%v: the mean at %d is %v, that of its children %v", tree, x, means[x], mean)
	}
}

func TestPromise2Covariances(t *testing.T) {
	for _, tree := range someTrees() {
		lists := somePays(tree)
		for _, a := range lists {
			for _, b := range lists {
				want := covarianceOf(tree, a, b)
				got, ok := impl.CovarianceOf(tree, a, b)
				checkFraction(t, fmt.Sprint("CovarianceOf", tree, a, b), got, ok, want)
			}
			got, ok := impl.VarianceOf(tree, a)
			checkFraction(t, fmt.Sprint("VarianceOf", tree, a), got, ok, covarianceOf(tree, a, a))
		}
	}
}

// covarianceOf returns the mean of the products of what each pay is above its mean, which is
// the same as the document's difference.
func covarianceOf(t impl.Tree, a []int, b []int) *big.Rat {
	sum := rat(0, 1)
	for i, end := range leaves(t) {
		first := new(big.Rat).Sub(rat(a[i], 1), meanBelow(t, 0, a))
		second := new(big.Rat).Sub(rat(b[i], 1), meanBelow(t, 0, b))
		product := first.Mul(first, second)
		sum.Add(sum, product.Mul(product, rat(t.Weights[end], weightBelow(t, 0))))
	}
	return sum
}

func TestPromise2VariancesAtTheLimits(t *testing.T) {
	two := treeOf([]int{-1, 0, 0}, 1)
	if got, ok := impl.VarianceOf(two, []int{-999, 999}); !ok || got != [2]int{998001, 1} {
		t.Errorf("VarianceOf(-999, 999) = %v, %v", got, ok)
	}
	// The square of the mean, 499500000 + 1/4, is no fraction by itself.
	star := treeOf(limitTrees()[4].Parents, 20, 19)
	pays := make([]int, mostNodes-1)
	for i := range pays {
		pays[i] = mostPay - i%2
	}
	for _, list := range [][]int{pays, slices.Repeat([]int{mostPay}, len(pays))} {
		got, ok := impl.VarianceOf(star, list)
		checkFraction(t, "VarianceOf pays near the greatest", got, ok, covarianceOf(star, list, list))
		if !ok {
			t.Errorf("VarianceOf(%v) fails", list)
		}
	}
	for i := range pays {
		pays[i] = mostPay * (1 - i%2*2)
	}
	if got, ok := impl.VarianceOf(star, pays); ok || got != [2]int{} {
		t.Errorf("VarianceOf(%v) = %v, %v, which is no fraction", pays, got, ok)
	}
}

// payAtCut returns for each end the value of the node of the cut that is it or above it.
func payAtCut(t impl.Tree, d int, values []int) []int {
	var pays []int
	for _, end := range leaves(t) {
		i := 0
		for x := range t.Parents {
			if depthOf(t, x) != d && (depthOf(t, x) > d || !slices.Contains(leaves(t), x)) {
				continue
			}
			if isAtOrBelow(t, end, x) {
				pays = append(pays, values[i])
			}
			i++
		}
	}
	return pays
}

func TestPromise2PaysAtCut(t *testing.T) {
	for _, tree := range someTrees() {
		for _, d := range []int{0, 1, 2, 3, mostNodes - 1, mostNodes, math.MaxInt} {
			cut, _ := impl.CutAt(tree, d)
			values := make([]int, len(cut))
			for i := range values {
				values[i] = []int{mostPay, -mostPay, 0, i}[i%4]
			}
			pays, ok := impl.PaysAtCut(tree, d, values)
			if !ok || !slices.Equal(pays, payAtCut(tree, d, values)) {
				t.Errorf("PaysAtCut(%v, %d, %v) = %v, %v", tree, d, values, pays, ok)
			}
			if when, ok := impl.KnownAt(tree, pays); !ok || when > d {
				t.Errorf("KnownAt(%v, %v) = %d, %v; they are known at %d", tree, pays, when, ok, d)
			}
			checkNoPaysAtCut(t, tree, -1-d, values)
			for _, bad := range [][]int{append(slices.Clone(values), 0), values[1:], make([]int, 1<<10)} {
				checkNoPaysAtCut(t, tree, d, bad)
			}
			for _, n := range []int{mostPay + 1, -mostPay - 1, math.MaxInt, math.MinInt} {
				bad := slices.Clone(values)
				bad[len(bad)-1] = n
				checkNoPaysAtCut(t, tree, d, bad)
			}
		}
	}
}

func checkNoPaysAtCut(t *testing.T, tree impl.Tree, d int, values []int) {
	t.Helper()
	if got, ok := impl.PaysAtCut(tree, d, values); ok || len(got) > 0 {
		t.Errorf("PaysAtCut(%v, %d, %.9v) = %v, %v", tree, d, values, got, ok)
	}
}

// knownAt returns the least time at which pays are known: just below the deepest node that two
// ends with different pays have in common.
func knownAt(t impl.Tree, pays []int) int {
	known := 0
	for i, a := range leaves(t) {
		for k, b := range leaves(t) {
			for x := range t.Parents {
				if pays[i] != pays[k] && isAtOrBelow(t, a, x) && isAtOrBelow(t, b, x) {
					known = max(known, depthOf(t, x)+1)
				}
			}
		}
	}
	return known
}

func TestPromise2KnownAt(t *testing.T) {
	for _, tree := range someTrees() {
		lists := somePays(tree)
		for _, event := range eventsOf(tree) {
			pays, _ := impl.IndicatorOf(tree, event)
			lists = append(lists, pays)
		}
		for _, pays := range lists {
			if when, ok := impl.KnownAt(tree, pays); !ok || when != knownAt(tree, pays) {
				t.Errorf("KnownAt(%v, %v) = %d, %v", tree, pays, when, ok)
			}
		}
	}
}

func TestPromise2KnownAtTheGreatestDepth(t *testing.T) {
	parents := []int{-1}
	for x := 1; x < mostNodes-1; x++ {
		parents = append(parents, x-1)
	}
	// The last two nodes are both children of the last but two.
	tree := treeOf(append(parents, mostNodes-3), 1)
	for pay, want := range []int{0, mostNodes - 2} {
		if when, ok := impl.KnownAt(tree, []int{0, pay}); !ok || when != want {
			t.Errorf("KnownAt(0, %d) = %d, %v", pay, when, ok)
		}
	}
}

func TestPromise2OtherListsAreNoPays(t *testing.T) {
	for _, tree := range limitTrees() {
		for _, bad := range badPays(tree) {
			checkNoPays(t, tree, bad)
			good := make([]int, len(leaves(tree)))
			for _, x := range [][2][]int{{good, bad}, {bad, good}, {bad, bad}} {
				if got, ok := impl.CovarianceOf(tree, x[0], x[1]); ok || got != [2]int{} {
					t.Errorf("CovarianceOf(%v, %.9v) = %v, %v", tree, x, got, ok)
				}
			}
		}
	}
	for _, tree := range badTrees() {
		for _, pays := range [][]int{nil, {0}, {1, 2}} {
			checkNoPays(t, tree, pays)
			checkNoPaysAtCut(t, tree, 0, pays)
			checkNoPaysAtCut(t, tree, 1, pays)
		}
	}
}

func checkNoPays(t *testing.T, tree impl.Tree, pays []int) {
	t.Helper()
	if got, ok := impl.MeansOf(tree, pays); ok || len(got) > 0 {
		t.Errorf("MeansOf(%v, %.9v) = %v, %v", tree, pays, got, ok)
	}
	if got, ok := impl.VarianceOf(tree, pays); ok || got != [2]int{} {
		t.Errorf("VarianceOf(%v, %.9v) = %v, %v", tree, pays, got, ok)
	}
	if got, ok := impl.KnownAt(tree, pays); ok || got != 0 {
		t.Errorf("KnownAt(%v, %.9v) = %v, %v", tree, pays, got, ok)
	}
}
