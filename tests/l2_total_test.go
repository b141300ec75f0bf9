package tests

import (
	"fmt"
	"math"
	"reflect"
	"slices"
	"testing"

	"loop.example/g01131/impl"
)

// treeCall calls one function of trees with arguments of its choice, and returns its results but
// for the last one, and this.
type treeCall struct {
	name string
	call func(t impl.Tree, a []int, b []int, n int) (any, bool)
}

// treeCalls returns a call of each function of chapter 2 that has a Tree as its argument.
func treeCalls() []treeCall {
	type tree = impl.Tree
	return []treeCall{
		{"IsTree", func(t tree, a, b []int, n int) (any, bool) { ok := impl.IsTree(t); return ok, ok }},
		{"EndsOf", func(t tree, a, b []int, n int) (any, bool) { return anyOf(impl.EndsOf(t)) }},
		{"ChildrenOf", func(t tree, a, b []int, n int) (any, bool) { return anyOf(impl.ChildrenOf(t, n)) }},
		{"DepthsOf", func(t tree, a, b []int, n int) (any, bool) { return anyOf(impl.DepthsOf(t)) }},
		{"WayTo", func(t tree, a, b []int, n int) (any, bool) { return anyOf(impl.WayTo(t, n)) }},
		{"SumsOf", func(t tree, a, b []int, n int) (any, bool) { return anyOf(impl.SumsOf(t)) }},
		{"ChanceOf", func(t tree, a, b []int, n int) (any, bool) { return anyOf(impl.ChanceOf(t, n)) }},
		{"CutAt", func(t tree, a, b []int, n int) (any, bool) { return anyOf(impl.CutAt(t, n)) }},
		{"MeansOf", func(t tree, a, b []int, n int) (any, bool) { return anyOf(impl.MeansOf(t, a)) }},
		{"EventChance", func(t tree, a, b []int, n int) (any, bool) { return anyOf(impl.EventChance(t, a)) }},
		{"ChanceGiven", func(t tree, a, b []int, n int) (any, bool) { return anyOf(impl.ChanceGiven(t, a, b)) }},
		{"OtherEnds", func(t tree, a, b []int, n int) (any, bool) { return anyOf(impl.OtherEnds(t, a)) }},
		{"AreIndependent", func(t tree, a, b []int, n int) (any, bool) { return anyOf(impl.AreIndependent(t, a, b)) }},
		{"IndicatorOf", func(t tree, a, b []int, n int) (any, bool) { return anyOf(impl.IndicatorOf(t, a)) }},
		{"VarianceOf", func(t tree, a, b []int, n int) (any, bool) { return anyOf(impl.VarianceOf(t, a)) }},
		{"CovarianceOf", func(t tree, a, b []int, n int) (any, bool) { return anyOf(impl.CovarianceOf(t, a, b)) }},
		{"PaysAtCut", func(t tree, a, b []int, n int) (any, bool) { return anyOf(impl.PaysAtCut(t, n, a)) }},
		{"KnownAt", func(t tree, a, b []int, n int) (any, bool) { return anyOf(impl.KnownAt(t, a)) }},
		{"PruneTree", func(t tree, a, b []int, n int) (any, bool) { return anyOf(impl.PruneTree(t, n)) }},
		{"TreeText", func(t tree, a, b []int, n int) (any, bool) { return anyOf(impl.TreeText(t)) }},
	}
}

func anyOf[T any](result T, ok bool) (any, bool) { return result, ok }

// isNothing reports whether a result is what a failing call returns.
func isNothing(result any) bool {
	switch x := result.(type) {
	case []int:
		return len(x) == 0
	case [][]int:
		return len(x) == 0
	case [][2]int:
		return len(x) == 0
	case [2][][2]int:
		return len(x[0]) == 0 && len(x[1]) == 0
	case impl.Tree:
		return len(x.Parents) == 0 && len(x.Weights) == 0
	case impl.Market:
		return isNothing(x.Tree) && len(x.Prices) == 0
	case impl.Arm:
		return isNothing(x.Tree) && len(x.Fees) == 0
	}
	return reflect.ValueOf(result).IsZero()
}

func oddNumbers() []int {
	return []int{0, 1, 2, -1, -2, 23, 24, 25, 999, 1000, math.MaxInt32, math.MinInt32, math.MaxInt, math.MaxInt - 1, math.MinInt, math.MinInt + 1}
}

func oddLists() [][]int {
	lists := [][]int{nil, {}, {2, 3, 4}, {4, 3, 2}, {2, 2}, make([]int, 23), make([]int, 24), make([]int, 25), make([]int, 1<<12)}
	for _, n := range oddNumbers() {
		lists = append(lists, []int{n}, []int{0, n}, []int{n, n, n})
	}
	return lists
}

// checkCalls makes calls with Trees, lists and numbers of all kinds. A panic in a call fails the
// test, as does a call that does not return.
func checkCalls(t *testing.T, calls []treeCall) {
	t.Helper()
	bad := badTrees()
	trees := append(slices.Clone(bad), limitTrees()...)
	trees = append(trees, impl.Tree{Parents: []int{-1, 0, 0, 1, 1}, Weights: []int{0, 0, 2, 1, 1}})
	for _, call := range calls {
		for i, tree := range trees {
			for _, a := range oddLists() {
				for _, n := range oddNumbers() {
					result, ok := call.call(tree, a, a, n)
					if !ok && !isNothing(result) {
						t.Fatalf("%s of Tree %d, %.9v, %d fails with %v", call.name, i, a, n, result)
					}
					if ok && i < len(bad) {
						t.Fatalf("%s of Tree %d, %.9v, %d = %v, but the Tree is bad", call.name, i, a, n, result)
					}
				}
			}
		}
	}
}

func TestPromise13TreesAndListsOfAllKinds(t *testing.T) {
	checkCalls(t, treeCalls())
}

func TestPromise13PairsOfNumbers(t *testing.T) {
	for _, a := range oddNumbers() {
		for _, b := range oddNumbers() {
			f := [2]int{a, b}
			if f, ok := impl.FractionOf(a, b); ok != (f != [2]int{}) || ok && !impl.IsFraction(f) {
				t.Errorf("FractionOf(%d, %d) = %v, %v", a, b, f, ok)
			}
			for _, g := range [][2]int{{1, 2}, {b, a}, {a, a}, {mostTop, 1}, {1, mostBottom}, {0, 0}} {
				fit := impl.IsFraction(f) && impl.IsFraction(g)
				sum, okSum := impl.AddFractions(f, g)
				product, okProduct := impl.TimesFractions(g, f)
				order, okOrder := impl.CompareFractions(f, g)
				if okSum && !fit || okProduct && !fit || okOrder != fit {
					t.Errorf("%v and %v: %v, %v, %v", f, g, okSum, okProduct, okOrder)
				}
				if !okSum && sum != [2]int{} || !okProduct && product != [2]int{} || !okOrder && order != 0 {
					t.Errorf("%v and %v: %v, %v, %v", f, g, sum, product, order)
				}
			}
		}
	}
}

func TestPromise13ParseTreeOfAllTexts(t *testing.T) {
	for _, s := range append(oddTexts(), shortTexts("-1: \xff", 5)...) {
		if tree, ok := impl.ParseTree(s); !ok && !isNothing(tree) {
			t.Errorf("ParseTree(%.30q) fails with %v", s, tree)
		}
	}
}

// roomy returns a copy of a list with room behind its end, which a function that appends to it
// would write to, and that room.
func roomy(list []int) ([]int, []int) {
	whole := append(slices.Clone(list), 77, 77, 77)
	return whole[:len(list)], whole
}

// Each call is made twice with arguments that must stay as they are; what it returns is written
// to in between, and must be memory of its own.
func TestPromise13TreesAndListsStayAsTheyAre(t *testing.T) {
	trees := append(limitTrees(), impl.Tree{Parents: []int{-1, 0, 0, 1, 1}, Weights: []int{0, 0, 2, 1, 1}}, treeOf([]int{-1, 0, 2}, 30))
	for _, tree := range trees {
		ends := leaves(tree)
		lists := [][]int{ends, ends[:1], ends[1:], {}, make([]int, len(ends)), slices.Repeat([]int{7}, len(ends)), {5}, {999, -999}, {1000}, {3, 2, 1}}
		for _, call := range treeCalls() {
			for i, list := range lists {
				for _, n := range []int{-1, 0, 1, 2, 24} {
					checkKept(t, call, tree, list, lists[(i+1)%len(lists)], n)
				}
			}
		}
	}
}

func checkKept(t *testing.T, call treeCall, tree impl.Tree, a []int, b []int, n int) {
	t.Helper()
	var arguments, wholes, kept [4][]int
	for i, list := range [][]int{tree.Parents, tree.Weights, a, b} {
		arguments[i], wholes[i] = roomy(list)
		kept[i] = slices.Clone(wholes[i])
	}
	given := impl.Tree{Parents: arguments[0], Weights: arguments[1]}
	first, ok := call.call(given, arguments[2], arguments[3], n)
	want := fmt.Sprint(first, ok)
	overwrite(first)
	for i := range wholes {
		if !slices.Equal(wholes[i], kept[i]) {
			t.Fatalf("%s of %v, %v, %v, %d changes an argument or shares its memory", call.name, tree, a, b, n)
		}
	}
	if second, ok := call.call(given, arguments[2], arguments[3], n); fmt.Sprint(second, ok) != want {
		t.Fatalf("%s of %v, %v, %v, %d returns %s, and then %v, %v", call.name, tree, a, b, n, want, second, ok)
	}
}

// overwrite fills the lists of a result with a number that no argument has, and the room behind
// their ends too.
func overwrite(result any) {
	switch x := result.(type) {
	case []int:
		fill(x)
	case [][]int:
		for _, list := range x {
			fill(list)
		}
		clear(x[:cap(x)])
	case [][2]int:
		fillPairs(x)
	case [2][][2]int:
		fillPairs(x[0])
		fillPairs(x[1])
	case impl.Tree:
		fill(x.Parents)
		fill(x.Weights)
	case impl.Arm:
		overwrite(x.Tree)
		fill(x.Fees)
	}
}

func fill(list []int) {
	list = list[:cap(list)]
	for i := range list {
		list[i] = -5
	}
}

func fillPairs(list [][2]int) {
	list = list[:cap(list)]
	for i := range list {
		list[i] = [2]int{-5, -5}
	}
}

func TestPromise13ListsOfOneTreeAreTheirOwn(t *testing.T) {
	text := "-1:0 0:0 0:2 1:1 1:1"
	source := impl.Tree{Parents: []int{-1, 0, 0, 1, 1}, Weights: []int{0, 0, 2, 1, 1}}
	for _, again := range []func() (impl.Tree, bool){
		func() (impl.Tree, bool) { return impl.ParseTree(text) },
		func() (impl.Tree, bool) { return impl.PruneTree(source, 5) },
	} {
		tree, ok := again()
		fill(tree.Parents)
		if !ok || !slices.Equal(tree.Weights, source.Weights) {
			t.Errorf("Parents and Weights share memory: %v", tree)
		}
		fill(tree.Weights)
		if tree, ok := again(); !ok || textOf(tree) != text {
			t.Errorf("a result that was written to comes again: %v, %v", tree, ok)
		}
	}
}
