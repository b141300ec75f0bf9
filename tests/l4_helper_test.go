package tests

import (
	"math/big"
	"slices"

	"loop.example/g01131/impl"
)

// mostLook is MaxLook, written out so that a changed constant is noticed.
const mostLook = 24

// game is a tree with what its tests need often.
type game struct {
	tree     impl.Tree
	ends     []int
	sums     []int
	children [][]int
	ways     [][]int
}

func gameOf(t impl.Tree) game {
	g := game{tree: t, ends: leaves(t)}
	for x := range t.Parents {
		g.sums = append(g.sums, weightBelow(t, x))
		g.children = append(g.children, childrenOf(t, x))
	}
	for _, end := range g.ends {
		g.ways = append(g.ways, wayTo(t, end))
	}
	return g
}

func someGames() []game {
	var games []game
	for _, tree := range someTrees() {
		games = append(games, gameOf(tree))
	}
	return games
}

// tieGame is small, and stopping at its root is worth as much as looking one step ahead.
func tieGame() (impl.Tree, []int) {
	return impl.Tree{Parents: []int{-1, 0, 0, 2, 2}, Weights: []int{0, 1, 0, 1, 2}}, []int{2, -1, 3, 8, 1}
}

// somePayments returns payments of a tree: those of processes, those that begin great and those
// that end great, with and without ties.
func somePayments(t impl.Tree) [][]int {
	rolls := &dice{uint64(len(t.Parents) + 2)}
	lists := make([][]int, 5)
	for x := range t.Parents {
		for k, n := range []int{
			40*depthOf(t, x) - mostPay, mostPay - 40*depthOf(t, x), rolls.between(0, 6), rolls.between(-mostPay, -mostPay+1), rolls.between(3, 4) * (1 - x%2*2),
		} {
			lists[k] = append(lists[k], n)
		}
	}
	return append(lists, someProcesses(t)...)
}

// goingOn returns what going on is worth at a node whose children are worth these numbers, or
// nil at an end.
func (g game) goingOn(worth []*big.Rat, x int) *big.Rat {
	if len(g.children[x]) == 0 {
		return nil
	}
	sum := rat(0, 1)
	for _, child := range g.children[x] {
		sum.Add(sum, new(big.Rat).Mul(rat(g.sums[child], g.sums[x]), worth[child]))
	}
	return sum
}

// worthAt returns what a node is worth whose children are worth these numbers.
func (g game) worthAt(payments []int, worth []*big.Rat, x int) *big.Rat {
	paid, going := rat(payments[x], 1), g.goingOn(worth, x)
	if going == nil || paid.Cmp(going) >= 0 {
		return paid
	}
	return going
}

// envelope returns what each node is worth, from the last one to the root.
func (g game) envelope(payments []int) []*big.Rat {
	worth := make([]*big.Rat, len(payments))
	for x := len(payments) - 1; x >= 0; x-- {
		worth[x] = g.worthAt(payments, worth, x)
	}
	return worth
}

// firstWhere returns the rule that stops at the first node on each way that is an end or for
// which has is true.
func (g game) firstWhere(has func(x int) bool) []int {
	var nodes []int
	for _, way := range g.ways {
		i := slices.IndexFunc(way[:len(way)-1], has)
		if i < 0 {
			i = len(way) - 1
		}
		nodes = append(nodes, way[i])
	}
	return stopOf(nodes)
}

// paidBy returns the mean of a rule, times the sum of the root.
func (g game) paidBy(payments []int, rule []int) int {
	total := 0
	for _, end := range g.ends {
		total += g.tree.Weights[end] * payments[stopOn(g.tree, rule, end)]
	}
	return total
}

// isNoLater reports whether each node of a is one of b or above one.
func isNoLater(t impl.Tree, a []int, b []int) bool {
	for _, x := range a {
		isBefore := func(y int) bool { return isAtOrBelow(t, y, x) }
		if !slices.ContainsFunc(b, isBefore) {
			return false
		}
	}
	return true
}

// isFraction reports whether a result is this number.
func isFraction(f [2]int, want *big.Rat) bool {
	return want.Num().IsInt64() && want.Denom().IsInt64() && f == [2]int{int(want.Num().Int64()), int(want.Denom().Int64())}
}
