package tests

import (
	"math/big"
	"testing"

	"loop.example/g01131/impl"
)

// The limits are written out so that a changed constant is noticed.
const (
	mostNodes  = 24
	mostWeight = 20
	mostPay    = 999
	mostTop    = 1000000000
	mostBottom = 1000000
)

// dice gives the same numbers in each run.
type dice struct{ state uint64 }

// below returns a number in 0..n-1.
func (d *dice) below(n int) int {
	d.state = d.state*6364136223846793005 + 1442695040888963407
	return int(d.state>>33) % n
}

// between returns a number in low..high.
func (d *dice) between(low int, high int) int {
	return low + d.below(high-low+1)
}

// treeOf returns the Tree of these parents whose ends have weights from a list, which is used
// over and over.
func treeOf(parents []int, weights ...int) impl.Tree {
	t := impl.Tree{Parents: append([]int{}, parents...), Weights: make([]int, len(parents))}
	for i, end := range leaves(t) {
		t.Weights[end] = weights[i%len(weights)]
	}
	return t
}

// shapes returns the lists of parents of all trees of a number of nodes.
func shapes(size int) [][]int {
	all := [][]int{{-1}}
	for x := 1; x < size; x++ {
		var next [][]int
		for _, parents := range all {
			for parent := range x {
				next = append(next, append(append([]int{}, parents...), parent))
			}
		}
		all = next
	}
	return all
}

// someTrees returns all small trees, trees of all sizes, and those at the limits.
func someTrees() []impl.Tree {
	trees := limitTrees()
	for size := 1; size <= 5; size++ {
		for _, parents := range shapes(size) {
			trees = append(trees, treeOf(parents, 1), treeOf(parents, 1, 2, 3), treeOf(parents, 20, 1, 15))
		}
	}
	rolls := &dice{7}
	for size := 2; size <= mostNodes; size++ {
		for range 3 {
			trees = append(trees, rolledTree(rolls, size))
		}
	}
	return trees
}

// limitTrees returns trees that reach a limit: of size, depth, breadth or weight.
func limitTrees() []impl.Tree {
	chain, star, pairs := []int{-1}, []int{-1}, []int{-1}
	for x := 1; x < mostNodes; x++ {
		chain = append(chain, x-1)
		star = append(star, 0)
		pairs = append(pairs, (x-1)/2)
	}
	return []impl.Tree{
		treeOf([]int{-1}, 1), treeOf([]int{-1}, mostWeight),
		treeOf(chain, 1), treeOf(chain, mostWeight),
		treeOf(star, mostWeight), treeOf(star, 1, 7, mostWeight), treeOf(star[:mostNodes-1], 19, mostWeight),
		treeOf(pairs, mostWeight), treeOf(pairs, 3, 1, 4, 1, 5),
	}
}

func rolledTree(rolls *dice, size int) impl.Tree {
	parents := []int{-1}
	for x := 1; x < size; x++ {
		parents = append(parents, rolls.below(x))
	}
	t := treeOf(parents, 1)
	for _, end := range leaves(t) {
		t.Weights[end] = rolls.between(1, mostWeight)
	}
	return t
}

// leaves returns the nodes that are no other node's parent.
func leaves(t impl.Tree) []int {
	var ends []int
	for x := range t.Parents {
		isParent := false
		for _, parent := range t.Parents {
			isParent = isParent || parent == x
		}
		if !isParent {
			ends = append(ends, x)
		}
	}
	return ends
}

// isAtOrBelow reports whether y is x or below it.
func isAtOrBelow(t impl.Tree, y int, x int) bool {
	for y > x {
		y = t.Parents[y]
	}
	return y == x
}

// depthOf counts the parents of a node.
func depthOf(t impl.Tree, x int) int {
	depth := 0
	for x = t.Parents[x]; x >= 0; x = t.Parents[x] {
		depth++
	}
	return depth
}

// weightBelow adds the weights of all ends that are x or below it.
func weightBelow(t impl.Tree, x int) int {
	sum := 0
	for _, end := range leaves(t) {
		if isAtOrBelow(t, end, x) {
			sum += t.Weights[end]
		}
	}
	return sum
}

// eventsOf returns the events of a tree: all of them if there are few, else some, always with
// the empty one and that of all ends.
func eventsOf(t impl.Tree) [][]int {
	ends := leaves(t)
	events := [][]int{{}, ends}
	few := len(ends) <= 4
	rolls := &dice{uint64(len(ends))}
	for i := range 16 {
		var event []int
		for k, end := range ends {
			if few && i>>k&1 == 1 || !few && rolls.below(2) == 1 {
				event = append(event, end)
			}
		}
		events = append(events, event)
	}
	return events
}

// somePays returns lists of pays of a tree, those at the limits among them.
func somePays(t impl.Tree) [][]int {
	rolls := &dice{uint64(len(t.Parents))}
	lists := make([][]int, 9)
	for i := range leaves(t) {
		for k, pay := range []int{
			0, 1, mostPay, -mostPay, i, mostPay * (1 - i%2*2), i % 3,
			rolls.between(-mostPay, mostPay), rolls.between(-2, 2),
		} {
			lists[k] = append(lists[k], pay)
		}
	}
	return lists
}

// exact returns a fraction as a number without limits.
func exact(f [2]int) *big.Rat {
	return big.NewRat(int64(f[0]), int64(f[1]))
}

// rat returns the number a divided by b.
func rat(a int, b int) *big.Rat {
	return big.NewRat(int64(a), int64(b))
}

// checkFraction compares a result with the number that it must be, or that it must fail for if
// this number is beyond the limits of fractions.
func checkFraction(t *testing.T, what string, got [2]int, ok bool, want *big.Rat) {
	t.Helper()
	top, bottom := big.NewInt(mostTop), big.NewInt(mostBottom)
	if want.Num().CmpAbs(top) > 0 || want.Denom().Cmp(bottom) > 0 {
		if ok || got != [2]int{} {
			t.Errorf("%s = %v, %v; it is %v, which is no fraction", what, got, ok, want)
		}
		return
	}
	if !ok || got != [2]int{int(want.Num().Int64()), int(want.Denom().Int64())} {
		t.Errorf("%s = %v, %v; want %v", what, got, ok, want)
	}
}
