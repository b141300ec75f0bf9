package tests

import (
	"fmt"
	"math"
	"math/big"
	"slices"
	"testing"

	"loop.example/g01131/impl"
)

// gainfulLists returns balanced lists without numbers less than 0.
func gainfulLists(rolls *dice, tree impl.Tree) [][]int {
	size := len(tree.Parents)
	lists := [][]int{make([]int, size), slices.Repeat([]int{1}, size), slices.Repeat([]int{mostPay}, size)}
	for _, first := range []int{0, 1, 2, 6, 20, 500, mostPay - 3} {
		lists = append(lists, rolledProcess(rolls, tree, first, 0, 0))
	}
	return lists
}

// largestOn returns for each end the greatest number on the way to it.
func (g game) largestOn(list []int) []int {
	var largest []int
	for _, way := range g.ways {
		most := list[0]
		for _, x := range way {
			most = max(most, list[x])
		}
		largest = append(largest, most)
	}
	return largest
}

func (g game) largestMean(list []int) *big.Rat {
	sum := 0
	for i, most := range g.largestOn(list) {
		sum += g.tree.Weights[g.ends[i]] * most
	}
	return rat(sum, g.sums[0])
}

func (g game) largestChance(list []int, level int) *big.Rat {
	sum := 0
	for i, most := range g.largestOn(list) {
		if most >= level {
			sum += g.tree.Weights[g.ends[i]]
		}
	}
	return rat(sum, g.sums[0])
}

func TestPromise10LargestMeans(t *testing.T) {
	rolls := &dice{16}
	greater := 0
	for _, g := range someGames() {
		for _, list := range gainfulLists(rolls, g.tree) {
			want := g.largestMean(list)
			got, ok := impl.LargestMean(g.tree, list)
			checkFraction(t, fmt.Sprint("LargestMean of ", g.tree, list), got, ok, want)
			if order := want.Cmp(rat(list[0], 1)); order < 0 {
				t.Errorf("LargestMean(%v, %v) = %v is less than the number of the root", g.tree, list, got)
			} else {
				greater += order
			}
		}
	}
	if greater == 0 {
		t.Error("no mean is greater than the number of the root")
	}
}

// The chance, times the level, is at most the number of the root.
func TestPromise10LargestChances(t *testing.T) {
	rolls := &dice{17}
	tight := 0
	for _, g := range someGames() {
		for _, list := range gainfulLists(rolls, g.tree) {
			levels := []int{1, 2, mostPay - 1, mostPay}
			for _, number := range list {
				levels = append(levels, number-1, number, number+1)
			}
			slices.Sort(levels)
			for _, level := range slices.Compact(levels) {
				got, ok := impl.LargestChance(g.tree, list, level)
				if !isIn(level, 1, mostPay) {
					if ok || got != [2]int{} {
						t.Errorf("LargestChance(%v, %v, %d) = %v, %v", g.tree, list, level, got, ok)
					}
					continue
				}
				want := g.largestChance(list, level)
				checkFraction(t, fmt.Sprint("LargestChance of ", g.tree, list, level), got, ok, want)
				bound := want.Mul(want, rat(level, 1)).Cmp(rat(list[0], 1))
				if bound > 0 {
					t.Errorf("LargestChance(%v, %v, %d) = %v is too great", g.tree, list, level, got)
				}
				if bound == 0 && level > list[0] {
					tight++
				}
			}
		}
	}
	if tight == 0 {
		t.Error("no bound is reached")
	}
}

func TestPromise10KnownLargest(t *testing.T) {
	tree := impl.Tree{Parents: []int{-1, 0, 0, 1, 1}, Weights: []int{0, 0, 2, 1, 1}}
	for _, x := range []struct {
		tree   impl.Tree
		list   []int
		mean   [2]int
		level  int
		chance [2]int
	}{
		{tree, []int{3, 3, 3, 1, 5}, [2]int{7, 2}, 4, [2]int{1, 4}}, {tree, []int{3, 3, 3, 1, 5}, [2]int{7, 2}, 3, [2]int{1, 1}}, {tree, []int{3, 3, 3, 1, 5}, [2]int{7, 2}, 6, [2]int{0, 1}}, {tree, []int{3, 6, 0, 6, 6}, [2]int{9, 2}, 6, [2]int{1, 2}},
		{tree, []int{2, 4, 0, 0, 8}, [2]int{4, 1}, 4, [2]int{1, 2}}, {tree, []int{2, 4, 0, 0, 8}, [2]int{4, 1}, 5, [2]int{1, 4}}, {tree, []int{0, 0, 0, 0, 0}, [2]int{0, 1}, 1, [2]int{0, 1}},
		{treeOf([]int{-1}, 7), []int{0}, [2]int{0, 1}, 1, [2]int{0, 1}}, {treeOf([]int{-1}, 7), []int{5}, [2]int{5, 1}, 5, [2]int{1, 1}}, {treeOf([]int{-1}, 7), []int{5}, [2]int{5, 1}, 6, [2]int{0, 1}}, {treeOf([]int{-1}, 1), []int{mostPay}, [2]int{mostPay, 1}, mostPay, [2]int{1, 1}},
		{treeOf([]int{-1, 0, 0}, 1, 2), []int{333, mostPay, 0}, [2]int{555, 1}, mostPay, [2]int{1, 3}},
	} {
		if mean, ok := impl.LargestMean(x.tree, x.list); !ok || mean != x.mean {
			t.Errorf("LargestMean(%v, %v) = %v, %v", x.tree, x.list, mean, ok)
		}
		if chance, ok := impl.LargestChance(x.tree, x.list, x.level); !ok || chance != x.chance {
			t.Errorf("LargestChance(%v, %v, %d) = %v, %v", x.tree, x.list, x.level, chance, ok)
		}
	}
}

// isGainful reports whether a list is balanced, and has no numbers less than 0.
func isGainful(tree impl.Tree, list []int) bool {
	if len(list) != len(tree.Parents) || !areFrom(list, 0, mostPay) {
		return false
	}
	for x := range list {
		if driftAt(tree, list, x).Sign() != 0 {
			return false
		}
	}
	return true
}

func checkNotGainful(t *testing.T, tree impl.Tree, list []int) {
	t.Helper()
	for _, level := range []int{1, 2, mostPay} {
		if chance, ok := impl.LargestChance(tree, list, level); ok || chance != [2]int{} {
			t.Errorf("LargestChance(%.99s, %.9v, %d) = %v, %v", fmt.Sprint(tree), list, level, chance, ok)
		}
	}
	if mean, ok := impl.LargestMean(tree, list); ok || mean != [2]int{} {
		t.Errorf("LargestMean(%.99s, %.9v) = %v, %v", fmt.Sprint(tree), list, mean, ok)
	}
}

func TestPromise10NotGainful(t *testing.T) {
	counts := map[bool]int{}
	for _, tree := range someTrees() {
		rolls := &dice{18}
		for _, list := range append(someProcesses(tree), fairProcess(rolls, tree, -1), fairProcess(rolls, tree, 1), fairProcess(rolls, tree, 2)) {
			if isGainful(tree, list) {
				counts[true]++
			} else {
				counts[false]++
				checkNotGainful(t, tree, list)
			}
		}
		for _, list := range gainfulLists(rolls, tree) {
			if _, ok := impl.LargestMean(tree, list); !ok || !isGainful(tree, list) {
				t.Errorf("LargestMean(%v, %v) fails", tree, list)
			}
			if len(list) > 1 {
				list[rolls.below(len(list))]++
				checkNotGainful(t, tree, list)
			}
		}
		for _, bad := range append(badNumbers(len(tree.Parents), mostPay), nil) {
			checkNotGainful(t, tree, bad)
		}
	}
	if counts[true] == 0 || counts[false] == 0 {
		t.Errorf("not both kinds of lists: %v", counts)
	}
	// These are balanced, but have numbers less than 0, at the root or at an end alone.
	checkNotGainful(t, treeOf([]int{-1}, 1), []int{-1})
	checkNotGainful(t, treeOf([]int{-1, 0}, 1), []int{-2, -2})
	checkNotGainful(t, treeOf([]int{-1, 0, 0}, 1), []int{0, -1, 1})
	checkNotGainful(t, treeOf([]int{-1, 0, 0}, 1), []int{4, 9, -1})
	checkNotGainful(t, treeOf([]int{-1, 0, 0}, 1), []int{-mostPay, -mostPay, -mostPay})
	for _, tree := range badTrees() {
		for _, list := range [][]int{nil, {0}, {1, 1}, {3, 3, 3}, make([]int, len(tree.Parents))} {
			checkNotGainful(t, tree, list)
		}
	}
}

func TestPromise10OtherLevels(t *testing.T) {
	for _, tree := range limitTrees() {
		for _, list := range [][]int{make([]int, len(tree.Parents)), slices.Repeat([]int{mostPay}, len(tree.Parents))} {
			for _, level := range []int{0, -1, -mostPay, mostPay + 1, math.MaxInt, math.MinInt} {
				if chance, ok := impl.LargestChance(tree, list, level); ok || chance != [2]int{} {
					t.Errorf("LargestChance(%v, %v, %d) = %v, %v", tree, list, level, chance, ok)
				}
			}
		}
	}
}
