package tests

import (
	"slices"
	"testing"

	"loop.example/g01131/impl"
)

// levelAndMean is what BestLevel returns beside its last result.
type levelAndMean struct {
	level int
	mean  [2]int
}

// paymentCalls returns a call of each function of chapter 4 that has payments as an argument;
// they are the first list.
func paymentCalls() []treeCall {
	type tree = impl.Tree
	return []treeCall{
		{"RuleMean", func(t tree, a, b []int, n int) (any, bool) { return anyOf(impl.RuleMean(t, a, b)) }},
		{"EnvelopeOf", func(t tree, a, b []int, n int) (any, bool) { return anyOf(impl.EnvelopeOf(t, a)) }},
		{"GoingOn", func(t tree, a, b []int, n int) (any, bool) { return anyOf(impl.GoingOn(t, a, n)) }},
		{"BestRule", func(t tree, a, b []int, n int) (any, bool) { return anyOf(impl.BestRule(t, a)) }},
		{"LatestRule", func(t tree, a, b []int, n int) (any, bool) { return anyOf(impl.LatestRule(t, a)) }},
		{"DoCover", func(t tree, a, b []int, n int) (any, bool) { return anyOf(impl.DoCover(t, a, b)) }},
		{"LeastCaps", func(t tree, a, b []int, n int) (any, bool) { return anyOf(impl.LeastCaps(t, a)) }},
		{"BalanceBound", func(t tree, a, b []int, n int) (any, bool) { return anyOf(impl.BalanceBound(t, a, b)) }},
		{"SeerMean", func(t tree, a, b []int, n int) (any, bool) { return anyOf(impl.SeerMean(t, a)) }},
		{"ThresholdRule", func(t tree, a, b []int, n int) (any, bool) { return anyOf(impl.ThresholdRule(t, a, n)) }},
		{"BestLevel", func(t tree, a, b []int, n int) (any, bool) {
			level, mean, ok := impl.BestLevel(t, a)
			return levelAndMean{level, mean}, ok
		}},
		{"LookAhead", func(t tree, a, b []int, n int) (any, bool) { return anyOf(impl.LookAhead(t, a, n)) }},
		{"CostlySteps", func(t tree, a, b []int, n int) (any, bool) { return anyOf(impl.CostlySteps(t, a, n)) }},
	}
}

// ruleCalls returns a call of each other function of chapter 4.
func ruleCalls() []treeCall {
	type tree = impl.Tree
	return []treeCall{
		{"IsRule", func(t tree, a, b []int, n int) (any, bool) { return anyOf(impl.IsRule(t, a)) }},
		{"EarlierRule", func(t tree, a, b []int, n int) (any, bool) { return anyOf(impl.EarlierRule(t, a, b)) }},
		{"LaterRule", func(t tree, a, b []int, n int) (any, bool) { return anyOf(impl.LaterRule(t, a, b)) }},
		{"IsNoLater", func(t tree, a, b []int, n int) (any, bool) { return anyOf(impl.IsNoLater(t, a, b)) }},
		{"IsBalanced", func(t tree, a, b []int, n int) (any, bool) { return anyOf(impl.IsBalanced(t, a)) }},
	}
}

// Each call gets other arguments that are valid for it, too, so that it must fail for the payments
// alone.
func TestPromise4OtherListsAreNoPayments(t *testing.T) {
	check := func(tree impl.Tree, bad []int) {
		size := min(len(tree.Parents), mostNodes)
		for _, call := range paymentCalls() {
			for _, second := range [][]int{{0}, make([]int, size), slices.Repeat([]int{mostTop}, size)} {
				if result, ok := call.call(tree, bad, second, 0); ok || !isNothing(result) {
					t.Errorf("%s of %.9v, %.9v = %v, %v", call.name, bad, second, result, ok)
				}
			}
		}
	}
	for _, tree := range limitTrees() {
		for _, bad := range badNumbers(len(tree.Parents), mostPay) {
			check(tree, bad)
		}
	}
	for _, tree := range badTrees() {
		for _, list := range [][]int{nil, {0}, {1, 2}, {1, 2, 3}, make([]int, len(tree.Parents))} {
			check(tree, list)
		}
	}
}

func TestPromise13RulesAndPaymentsOfAllKinds(t *testing.T) {
	checkCalls(t, paymentCalls())
	checkCalls(t, ruleCalls())
}

func TestPromise13RulesAndPaymentsStayAsTheyAre(t *testing.T) {
	tie, payments := tieGame()
	for _, tree := range append(limitTrees(), tie, treeOf([]int{-1, 0, 2}, 30)) {
		size, ends := len(tree.Parents), leaves(tree)
		lists := [][]int{
			ends, {0}, make([]int, size), slices.Repeat([]int{7}, size), slices.Repeat([]int{mostTop}, size), payments, {5}, {}, {1000}, {3, 2, 1},
		}
		for _, call := range append(paymentCalls(), ruleCalls()...) {
			for _, a := range lists {
				for _, b := range lists {
					for _, n := range []int{-1, 0, 2, 24} {
						checkKept(t, call, tree, a, b, n)
					}
				}
			}
		}
	}
}
