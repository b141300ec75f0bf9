package tests

import (
	"slices"
	"testing"

	"loop.example/g01131/impl"
)

// processCalls returns a call of each function of chapter 3.
func processCalls() []treeCall {
	type tree = impl.Tree
	return []treeCall{
		{"IsProcess", func(t tree, a, b []int, n int) (any, bool) { return anyOf(impl.IsProcess(t, a)) }},
		{"DriftsOf", func(t tree, a, b []int, n int) (any, bool) { return anyOf(impl.DriftsOf(t, a)) }},
		{"IsFairProcess", func(t tree, a, b []int, n int) (any, bool) { return anyOf(impl.IsFairProcess(t, a)) }},
		{"IsFalling", func(t tree, a, b []int, n int) (any, bool) { return anyOf(impl.IsFalling(t, a)) }},
		{"FairProcess", func(t tree, a, b []int, n int) (any, bool) { return anyOf(impl.FairProcess(t, a)) }},
		{"DoobParts", func(t tree, a, b []int, n int) (any, bool) {
			first, second, ok := impl.DoobParts(t, a)
			return [2][][2]int{first, second}, ok
		}},
		{"StakeGains", func(t tree, a, b []int, n int) (any, bool) { return anyOf(impl.StakeGains(t, a, b)) }},
		{"IsStopping", func(t tree, a, b []int, n int) (any, bool) { return anyOf(impl.IsStopping(t, a)) }},
		{"StopAt", func(t tree, a, b []int, n int) (any, bool) { return anyOf(impl.StopAt(t, a, n)) }},
		{"StoppedProcess", func(t tree, a, b []int, n int) (any, bool) { return anyOf(impl.StoppedProcess(t, a, b)) }},
		{"StoppedMean", func(t tree, a, b []int, n int) (any, bool) { return anyOf(impl.StoppedMean(t, a, b)) }},
		{"FirstEntry", func(t tree, a, b []int, n int) (any, bool) { return anyOf(impl.FirstEntry(t, a, n)) }},
		{"EarlierStop", func(t tree, a, b []int, n int) (any, bool) { return anyOf(impl.EarlierStop(t, a, b)) }},
		{"LaterStop", func(t tree, a, b []int, n int) (any, bool) { return anyOf(impl.LaterStop(t, a, b)) }},
		{"CountStops", func(t tree, a, b []int, n int) (any, bool) { return anyOf(impl.CountStops(t)) }},
		{"Crossings", func(t tree, a, b []int, n int) (any, bool) { return anyOf(impl.Crossings(t, a, n, n+1)) }},
		{"Crossings of no levels", func(t tree, a, b []int, n int) (any, bool) { return anyOf(impl.Crossings(t, a, n, -n)) }},
		{"HighestOf", func(t tree, a, b []int, n int) (any, bool) { return anyOf(impl.HighestOf(t, a)) }},
	}
}

func TestPromise13ProcessesAndStoppingsOfAllKinds(t *testing.T) {
	checkCalls(t, processCalls())
}

func TestPromise13ProcessesAndStoppingsStayAsTheyAre(t *testing.T) {
	trees := append(limitTrees(), impl.Tree{Parents: []int{-1, 0, 0, 1, 1}, Weights: []int{0, 0, 2, 1, 1}}, treeOf([]int{-1, 0, 2}, 30))
	for _, tree := range trees {
		size, ends := len(tree.Parents), leaves(tree)
		lists := [][]int{
			ends, {0}, make([]int, size), slices.Repeat([]int{7}, size), make([]int, len(ends)), {5}, {}, ends[1:], {1000}, {3, 2, 1},
		}
		for _, call := range processCalls() {
			for _, a := range lists {
				for _, b := range lists {
					for _, n := range []int{-1, 0, 2, 23} {
						checkKept(t, call, tree, a, b, n)
					}
				}
			}
		}
	}
}

func TestPromise13PartsAreTheirOwn(t *testing.T) {
	tree := impl.Tree{Parents: []int{-1, 0, 0, 2, 2}, Weights: []int{0, 1, 0, 1, 2}}
	p := []int{3, -1, 3, 7, 1}
	first, second, ok := impl.DoobParts(tree, p)
	want := slices.Clone(second)
	fillPairs(first)
	if !ok || !slices.Equal(second, want) {
		t.Errorf("both parts share memory: %v", second)
	}
	fillPairs(second)
	if again, _, ok := impl.DoobParts(tree, p); !ok || again[0] != [2]int{3, 1} {
		t.Errorf("parts that were written to come again: %v", again)
	}
}
