package tests

import (
	"math"
	"math/big"
	"slices"

	"loop.example/g01131/impl"
)

// mostStake is MaxStake, written out so that a changed constant is noticed.
const mostStake = 20

// childrenOf returns the nodes that have x as their parent.
func childrenOf(t impl.Tree, x int) []int {
	var children []int
	for y, parent := range t.Parents {
		if parent == x {
			children = append(children, y)
		}
	}
	return children
}

// wayTo returns the nodes from the root to x.
func wayTo(t impl.Tree, x int) []int {
	var way []int
	for y := range t.Parents {
		if isAtOrBelow(t, x, y) {
			way = append(way, y)
		}
	}
	return way
}

// driftAt returns the drift of a process at a node.
func driftAt(t impl.Tree, p []int, x int) *big.Rat {
	drift := rat(0, 1)
	for _, child := range childrenOf(t, x) {
		drift.Add(drift, rat(weightBelow(t, child)*(p[child]-p[x]), weightBelow(t, x)))
	}
	return drift
}

// rolledProcess returns a process that begins with a number, whose other numbers are at least
// low, and whose drifts are in -fall..0.
func rolledProcess(rolls *dice, t impl.Tree, first int, low int, fall int) []int {
	p := make([]int, len(t.Parents))
	p[0] = first
	for x := range p {
		children := childrenOf(t, x)
		after := slices.Repeat([]int{p[x]}, len(children))
		for i := 1; i < len(children); i++ {
			k := rolls.below(i)
			// What one child gains, another one loses, by its weight.
			share := rat(weightBelow(t, children[k]), weightBelow(t, children[i]))
			times := rolls.between(-2, 2)
			after[i] += times * int(share.Num().Int64())
			after[k] -= times * int(share.Denom().Int64())
		}
		for i := range after {
			after[i] -= rolls.below(fall + 1)
		}
		for i, child := range children {
			p[child] = p[x]
			if areFrom(after, low, mostPay) {
				p[child] = after[i]
			}
		}
	}
	return p
}

func fairProcess(rolls *dice, t impl.Tree, first int) []int {
	return rolledProcess(rolls, t, first, -mostPay, 0)
}

func fallingProcess(rolls *dice, t impl.Tree, first int) []int {
	return rolledProcess(rolls, t, first, 0, 2)
}

func areFrom(numbers []int, low int, high int) bool {
	return !slices.ContainsFunc(numbers, func(n int) bool { return n < low || n > high })
}

// someProcesses returns processes of a tree: those at the limits, fair ones, falling ones, and
// others.
func someProcesses(t impl.Tree) [][]int {
	rolls := &dice{uint64(len(t.Parents))}
	lists := make([][]int, 8)
	for x := range t.Parents {
		for k, n := range []int{
			0, mostPay, -mostPay, x, mostPay * (1 - x%2*2), -depthOf(t, x),
			rolls.between(-mostPay, mostPay), rolls.between(-2, 2),
		} {
			lists[k] = append(lists[k], n)
		}
	}
	return append(lists, fairProcess(rolls, t, 0), fairProcess(rolls, t, 900), fallingProcess(rolls, t, 30), fallingProcess(rolls, t, 700))
}

// someStakes returns stakes of a tree, those at the limits among them.
func someStakes(t impl.Tree) [][]int {
	rolls := &dice{uint64(len(t.Parents) + 1)}
	lists := make([][]int, 5)
	for x := range t.Parents {
		for k, n := range []int{0, 1, mostStake, mostStake * (x%2*2 - 1), rolls.between(-mostStake, mostStake)} {
			lists[k] = append(lists[k], n)
		}
	}
	return lists
}

// allStops returns all stoppings below a node, by choosing the node itself or, for each child,
// one of its own.
func allStops(t impl.Tree, x int) [][]int {
	stops := [][]int{{}}
	for _, child := range childrenOf(t, x) {
		var next [][]int
		for _, stop := range stops {
			for _, more := range allStops(t, child) {
				next = append(next, append(slices.Clone(stop), more...))
			}
		}
		stops = next
	}
	if len(childrenOf(t, x)) == 0 {
		return [][]int{{x}}
	}
	return append(stops, []int{x})
}

// someStops returns stoppings of a tree: all of them if there are few, else some, always with
// the root alone and with all ends.
func someStops(t impl.Tree) [][]int {
	all := allStops(t, 0)
	stops := [][]int{{0}, leaves(t)}
	rolls := &dice{uint64(len(all))}
	for i := range min(len(all), 9) {
		if len(all) > 9 {
			i = rolls.below(len(all))
		}
		slices.Sort(all[i])
		stops = append(stops, all[i])
	}
	return stops
}

// stopOn returns the one node of a stopping on the way to a node, or -1.
func stopOn(t impl.Tree, stop []int, x int) int {
	for _, node := range stop {
		if isAtOrBelow(t, x, node) {
			return node
		}
	}
	return -1
}

// stopOf returns a list of one node for each end in ascending order, each node once.
func stopOf(nodes []int) []int {
	nodes = slices.Clone(nodes)
	slices.Sort(nodes)
	return slices.Compact(nodes)
}

// badNumbers returns lists that are not of size numbers in -most..most.
func badNumbers(size int, most int) [][]int {
	bad := [][]int{make([]int, size+1), make([]int, size-1), make([]int, 1<<20)}
	for _, n := range []int{most + 1, -most - 1, math.MaxInt, math.MinInt} {
		for _, i := range []int{0, size - 1} {
			list := make([]int, size)
			list[i] = n
			bad = append(bad, list)
		}
	}
	return bad
}

// badStops returns lists that are no stoppings of a tree.
func badStops(t impl.Tree) [][]int {
	ends := leaves(t)
	last, size := ends[len(ends)-1], len(t.Parents)
	bad := [][]int{
		{}, {-1}, {size}, {math.MaxInt}, {math.MinInt}, {0, 0}, {last, last}, {-1, 0}, {0, size}, {0, math.MaxInt}, {math.MinInt, 0},
		append(slices.Clone(ends), size), append([]int{-1}, ends...), append(slices.Clone(ends), ends...), append(slices.Clone(ends), last),
		make([]int, 1<<20), make([]int, size+1),
	}
	if size > 1 {
		bad = append(bad, []int{0, last}, append([]int{0}, ends...), append(slices.Clone(ends), 0), []int{last, 0}, ends[:len(ends)-1])
	}
	if len(ends) > 1 {
		backwards := slices.Clone(ends)
		slices.Reverse(backwards)
		bad = append(bad, ends[1:], backwards)
	}
	return bad
}
