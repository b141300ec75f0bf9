package tests

import (
	"fmt"
	"math"
	"math/big"
	"slices"
	"testing"

	"loop.example/g01131/impl"
)

// doCover reports whether caps cover payments, in numbers without limits.
func (g game) doCover(payments []int, caps []int) bool {
	for x := range payments {
		below := new(big.Int)
		for _, child := range g.children[x] {
			below.Add(below, big.NewInt(int64(caps[child])))
		}
		isBelow := len(g.children[x]) > 0 && big.NewInt(int64(caps[x])).Cmp(below) < 0
		if caps[x] < -mostTop || caps[x] > mostTop || caps[x] < g.sums[x]*payments[x] || isBelow {
			return false
		}
	}
	return true
}

// checkCover compares DoCover with the document's words, and returns it.
func (g game) checkCover(t *testing.T, payments []int, caps []int) bool {
	t.Helper()
	got, ok := impl.DoCover(g.tree, payments, caps)
	if !ok || got != g.doCover(payments, caps) {
		t.Errorf("DoCover(%v, %v, %v) = %v, %v", g.tree, payments, caps, got, ok)
	}
	return got
}

// Caps that cover, of which none can be less, are the least ones: if two lists cover, so does the
// list of the lesser one of both numbers at each node.
func TestPromise4LeastCapsCover(t *testing.T) {
	for _, g := range someGames() {
		for _, payments := range somePayments(g.tree) {
			caps, ok := impl.LeastCaps(g.tree, payments)
			if !ok || len(caps) != len(payments) || !g.checkCover(t, payments, caps) {
				t.Fatalf("LeastCaps(%v, %v) = %v, %v do not cover", g.tree, payments, caps, ok)
			}
			for x, worth := range g.envelope(payments) {
				if product := worth.Mul(worth, rat(g.sums[x], 1)); product.Cmp(rat(caps[x], 1)) != 0 {
					t.Errorf("LeastCaps(%v, %v)[%d] = %d; want %v", g.tree, payments, x, caps[x], product)
				}
				caps[x]--
				if g.checkCover(t, payments, caps) {
					t.Errorf("%v cover %v on %v, with less at %d", caps, payments, g.tree, x)
				}
				caps[x]++
			}
		}
	}
}

func TestPromise4DoCover(t *testing.T) {
	counts := map[bool]int{}
	rolls := &dice{4}
	for _, g := range someGames() {
		for _, payments := range somePayments(g.tree) {
			least, _ := impl.LeastCaps(g.tree, payments)
			for range 6 {
				caps := slices.Clone(least)
				for x := len(caps) - 1; x >= 0; x-- {
					caps[x] += rolls.between(0, 2)
					for _, child := range g.children[x] {
						caps[x] += caps[child] - least[child]
					}
				}
				if !g.checkCover(t, payments, caps) {
					t.Errorf("%v do not cover %v on %v", caps, payments, g.tree)
				}
				caps[rolls.below(len(caps))] -= rolls.between(1, 4)
				counts[g.checkCover(t, payments, caps)]++
			}
		}
	}
	if counts[true] == 0 || counts[false] == 0 {
		t.Errorf("not both kinds of caps: %v", counts)
	}
}

func TestPromise4CapsAtTheLimits(t *testing.T) {
	chain := gameOf(limitTrees()[3])
	pair := gameOf(treeOf([]int{-1, 0, 0}, 1))
	one := gameOf(treeOf([]int{-1}, 3))
	none := make([]int, mostNodes)
	top := slices.Repeat([]int{mostTop}, mostNodes)
	for _, x := range []struct {
		g              game
		payments, caps []int
		want           bool
	}{
		{chain, none, top, true}, {chain, none, none, true}, {chain, none, append([]int{mostTop + 1}, top[1:]...), false},
		{chain, none, append([]int{mostTop - 1}, top[1:]...), false},
		{chain, none, append(slices.Clone(top[1:]), mostTop+1), false}, {chain, none, append(slices.Clone(top[1:]), -1), false},
		{pair, []int{0, 0, 0}, []int{mostTop, mostTop, mostTop}, false}, {pair, []int{0, 0, 0}, []int{mostTop, mostTop / 2, mostTop / 2}, true},
		{pair, []int{0, 0, 0}, []int{mostTop, mostTop/2 + 1, mostTop / 2}, false}, {pair, []int{0, -999, 0}, []int{mostTop, -999, mostTop}, true},
		{pair, []int{-999, -999, -999}, []int{-1998, -999, -999}, true}, {pair, []int{-999, -999, -999}, []int{-1998, -998, -999}, false},
		{pair, []int{-999, -999, -999}, []int{-1997, -998, -999}, true}, {pair, []int{-999, -999, -999}, []int{-1998, -999, -1000}, false},
		{pair, []int{0, 0, 0}, []int{math.MaxInt, 0, 0}, false}, {pair, []int{0, 0, 0}, []int{0, math.MaxInt, math.MaxInt}, false},
		{pair, []int{-999, -999, -999}, []int{0, -999, -mostTop - 1}, false}, {pair, []int{-999, -999, -999}, []int{math.MinInt, math.MinInt, math.MinInt}, false},
		{one, []int{-5}, []int{-15}, true}, {one, []int{-5}, []int{-16}, false}, {one, []int{-5}, []int{-14}, true}, {one, []int{-5}, []int{-1}, true},
		{one, []int{5}, []int{mostTop}, true}, {one, []int{5}, []int{mostTop + 1}, false}, {one, []int{5}, []int{14}, false},
	} {
		if got := x.g.checkCover(t, x.payments, x.caps); got != x.want {
			t.Errorf("DoCover(%v, %v, %v) = %v", x.g.tree, x.payments, x.caps, got)
		}
	}
	for _, g := range []game{chain, pair, one} {
		size := len(g.sums)
		for _, bad := range badNumbers(size, mostTop) {
			if got, ok := impl.DoCover(g.tree, make([]int, size), bad); !ok || got {
				t.Errorf("DoCover(%v, %.9v) = %v, %v", g.tree, bad, got, ok)
			}
		}
		if got, ok := impl.DoCover(g.tree, make([]int, size), nil); !ok || got {
			t.Errorf("DoCover(%v, no caps) = %v, %v", g.tree, got, ok)
		}
	}
}

func TestPromise4IsBalanced(t *testing.T) {
	counts := map[bool]int{}
	for _, g := range someGames() {
		for _, list := range somePayments(g.tree) {
			want := true
			for x := range list {
				want = want && driftAt(g.tree, list, x).Sign() == 0
			}
			counts[want]++
			if got, ok := impl.IsBalanced(g.tree, list); !ok || got != want {
				t.Errorf("IsBalanced(%v, %v) = %v, %v", g.tree, list, got, ok)
			}
			if got, ok := impl.BalanceBound(g.tree, list, list); ok != want || ok && got != [2]int{list[0], 1} || !ok && got != [2]int{} {
				t.Errorf("BalanceBound(%v, %v) for itself = %v, %v", g.tree, list, got, ok)
			}
		}
		for _, bad := range badNumbers(len(g.sums), mostPay) {
			checkNotBalanced(t, g.tree, bad)
		}
	}
	if counts[true] == 0 || counts[false] == 0 {
		t.Errorf("not both kinds of lists: %v", counts)
	}
	for _, tree := range badTrees() {
		for _, list := range [][]int{nil, {0}, {1, 1}, make([]int, len(tree.Parents))} {
			checkNotBalanced(t, tree, list)
		}
	}
}

func checkNotBalanced(t *testing.T, tree impl.Tree, bad []int) {
	t.Helper()
	if got, ok := impl.IsBalanced(tree, bad); ok || got {
		t.Errorf("IsBalanced(%v, %.9v) = %v, %v", textOf(tree), bad, got, ok)
	}
	payments := make([]int, min(len(tree.Parents), mostNodes))
	if got, ok := impl.BalanceBound(tree, payments, bad); ok || got != [2]int{} {
		t.Errorf("BalanceBound(%v, %.9v) = %v, %v", textOf(tree), bad, got, ok)
	}
}

// boundOf returns the bound of a list.
func (g game) boundOf(payments []int, list []int) *big.Rat {
	bound := rat(0, 1)
	for i, end := range g.ends {
		most := math.MinInt
		for _, x := range g.ways[i] {
			most = max(most, payments[x]-list[x])
		}
		bound.Add(bound, rat(g.tree.Weights[end]*(most+list[0]), g.sums[0]))
	}
	return bound
}

func TestPromise4BalancedListsBoundTheEnvelope(t *testing.T) {
	for _, g := range someGames() {
		rolls := &dice{uint64(len(g.sums))}
		lists := [][]int{
			make([]int, len(g.sums)), slices.Repeat([]int{mostPay}, len(g.sums)), slices.Repeat([]int{-mostPay}, len(g.sums)),
			fairProcess(rolls, g.tree, 0), fairProcess(rolls, g.tree, 5), fairProcess(rolls, g.tree, mostPay-9),
		}
		for _, payments := range somePayments(g.tree) {
			top := g.envelope(payments)[0]
			for _, list := range lists {
				want := g.boundOf(payments, list)
				got, ok := impl.BalanceBound(g.tree, payments, list)
				checkFraction(t, fmt.Sprint("BalanceBound", g.tree, payments, list), got, ok, want)
				if want.Cmp(top) < 0 {
					t.Errorf("BalanceBound(%v, %v, %v) = %v is less than %v", g.tree, payments, list, want, top)
				}
			}
			seer, ok := impl.SeerMean(g.tree, payments)
			checkFraction(t, fmt.Sprint("SeerMean", g.tree, payments), seer, ok, g.boundOf(payments, lists[0]))
		}
	}
}

// The greatest bounds are those of the greatest differences.
func TestPromise4BoundsAtTheLimits(t *testing.T) {
	two := treeOf([]int{-1, 0, 0}, 1)
	for _, x := range []struct {
		payments, list []int
		want           [2]int
	}{
		{[]int{999, 999, 999}, []int{-999, -999, -999}, [2]int{999, 1}}, {[]int{-999, -999, -999}, []int{999, 999, 999}, [2]int{-999, 1}},
		{[]int{-999, -999, -999}, []int{0, -999, 999}, [2]int{-999, 2}}, {[]int{-999, 999, 999}, []int{0, -999, 999}, [2]int{999, 1}},
		{[]int{999, -999, -999}, []int{0, -999, 999}, [2]int{999, 1}}, {[]int{-999, -999, 999}, []int{0, 999, -999}, [2]int{999, 2}},
	} {
		if got, ok := impl.BalanceBound(two, x.payments, x.list); !ok || got != x.want {
			t.Errorf("BalanceBound(%v, %v) = %v, %v", x.payments, x.list, got, ok)
		}
	}
}

// The envelope is at least the mean of the best level and at most that of the greatest payments;
// for some payments it is neither of them.
func TestPromise4EnvelopeBetweenBestLevelAndSeer(t *testing.T) {
	strict := 0
	for _, g := range someGames() {
		for _, payments := range somePayments(g.tree) {
			envelope, _ := impl.EnvelopeOf(g.tree, payments)
			_, least, okLeast := impl.BestLevel(g.tree, payments)
			most, okMost := impl.SeerMean(g.tree, payments)
			first, okFirst := impl.CompareFractions(least, envelope[0])
			second, okSecond := impl.CompareFractions(envelope[0], most)
			if !okLeast || !okMost || !okFirst || !okSecond || first > 0 || second > 0 {
				t.Errorf("%v, %v: %v, %v, %v", g.tree, payments, least, envelope[0], most)
			}
			if first < 0 && second < 0 {
				strict++
			}
		}
	}
	if strict == 0 {
		t.Error("no envelope strictly between the others")
	}
}
