package tests

import (
	"fmt"
	"math"
	"slices"
	"testing"

	"loop.example/g01131/impl"
)

// numberCall calls one function of chapter 5 with numbers, and tells which of these are valid.
type numberCall struct {
	name    string
	size    int
	call    func(n []int) (any, bool)
	isValid func(n []int) bool
}

func isIn(n int, low int, high int) bool { return n >= low && n <= high }

func areWeights(a int, b int) bool {
	return isIn(a, 1, mostWeight) && isIn(b, 1, mostWeight)
}

func isRuin(n []int) bool {
	return areWeights(n[0], n[1]) && isIn(n[3], 1, mostGoal) && isIn(n[2], 0, n[3])
}

func isTable(n []int) bool {
	return areWeights(n[0], n[1]) && isIn(n[2], 1, mostGoal) && isIn(n[3], 0, mostRolls)
}

func areVotes(n []int) bool {
	return isIn(n[0], 0, mostWalk) && isIn(n[1], 0, mostWalk) && n[0]+n[1] <= mostWalk
}

func isEvenWalk(n []int) bool {
	return isIn(n[0], 0, mostWalk) && n[0]%2 == 0
}

// numberCalls returns a call of each function of chapter 5, but for those whose result may be no
// fraction, and StakeProof.
func numberCalls() []numberCall {
	return []numberCall{
		{"RuinSteps", 5, func(n []int) (any, bool) { return anyOf(impl.RuinSteps(n[0], n[1], n[2], n[3], n[4])) }, func(n []int) bool {
			return isRuin(n) && isIn(n[4], 0, mostRolls)
		}},
		{"PathCount", 2, func(n []int) (any, bool) { return anyOf(impl.PathCount(n[0], n[1])) }, func(n []int) bool {
			return isIn(n[0], 0, mostWalk)
		}},
		{"PathsAbove", 3, func(n []int) (any, bool) { return anyOf(impl.PathsAbove(n[0], n[1], n[2])) }, func(n []int) bool {
			return isIn(n[0], 0, mostWalk) && isIn(n[2], -mostWalk, 0)
		}},
		{"FirstPassages", 2, func(n []int) (any, bool) { return anyOf(impl.FirstPassages(n[0], n[1])) }, func(n []int) bool {
			return isIn(n[0], 1, mostWalk) && n[1] != 0
		}},
		{"BallotCount", 2, func(n []int) (any, bool) { return anyOf(impl.BallotCount(n[0], n[1])) }, areVotes},
		{"TieCount", 2, func(n []int) (any, bool) { return anyOf(impl.TieCount(n[0], n[1])) }, areVotes},
		{"ReturnCounts", 1, func(n []int) (any, bool) { return anyOf(impl.ReturnCounts(n[0])) }, isEvenWalk},
		{"LeadCounts", 1, func(n []int) (any, bool) { return anyOf(impl.LeadCounts(n[0])) }, isEvenWalk},
		{"TimidTable", 4, func(n []int) (any, bool) { return anyOf(impl.TimidTable(n[0], n[1], n[2], n[3])) }, isTable},
		{"BoldTable", 4, func(n []int) (any, bool) { return anyOf(impl.BoldTable(n[0], n[1], n[2], n[3])) }, isTable},
		{"BestStakeTable", 4, func(n []int) (any, bool) { return anyOf(impl.BestStakeTable(n[0], n[1], n[2], n[3])) }, isTable},
	}
}

// fractionCalls returns a call of each function of chapter 5 whose result may be no fraction.
func fractionCalls() []numberCall {
	return []numberCall{
		{"RuinChance", 4, func(n []int) (any, bool) { return anyOf(impl.RuinChance(n[0], n[1], n[2], n[3])) }, isRuin},
		{"RuinMean", 4, func(n []int) (any, bool) { return anyOf(impl.RuinMean(n[0], n[1], n[2], n[3])) }, isRuin},
	}
}

// edges returns numbers at the limits of chapter 5 and just beyond them, and those at the limits
// of int.
func edges() []int {
	return []int{
		0, 1, 2, -1, mostRolls, mostRolls + 1, mostGoal, mostGoal + 1, mostWeight, mostWeight + 1,
		mostWalk, mostWalk + 1, -mostWalk, -mostWalk - 1, math.MaxInt, math.MinInt,
	}
}

// tuples calls visit with each list of size numbers.
func tuples(numbers []int, size int, visit func(list []int)) {
	list := make([]int, size)
	var choose func(i int)
	choose = func(i int) {
		if i == size {
			visit(list)
			return
		}
		for _, n := range numbers {
			list[i] = n
			choose(i + 1)
		}
	}
	choose(0)
}

func TestPromise13RuinAndWalksOfAllNumbers(t *testing.T) {
	for _, call := range numberCalls() {
		tuples(edges(), call.size, func(n []int) {
			result, ok := call.call(n)
			if ok != call.isValid(n) || !ok && !isNothing(result) {
				t.Errorf("%s of %v = %v, %v", call.name, n, result, ok)
			}
		})
	}
	for _, call := range fractionCalls() {
		tuples(edges(), call.size, func(n []int) {
			result, ok := call.call(n)
			if ok && !call.isValid(n) || !ok && !isNothing(result) || ok && !impl.IsFraction(result.([2]int)) {
				t.Errorf("%s of %v = %v, %v", call.name, n, result, ok)
			}
		})
	}
}

// Each call is made again behind one whose result was written to.
func TestPromise13RuinAndWalksAreTheirOwn(t *testing.T) {
	for _, call := range append(numberCalls(), fractionCalls()...) {
		tuples([]int{0, 1, 2, 4, 7}, call.size, func(n []int) {
			first, ok := call.call(n)
			want := fmt.Sprint(first, ok)
			overwrite(first)
			if second, ok := call.call(n); fmt.Sprint(second, ok) != want {
				t.Errorf("%s of %v returns %s, and then %v, %v", call.name, n, want, second, ok)
			}
		})
	}
}

func TestPromise13ListsOfTablesAreTheirOwn(t *testing.T) {
	for _, maker := range tableMakers() {
		table, _ := maker.call(3, 2, 5, 4)
		for i, row := range table {
			want := cloneTable(table)
			fill(row)
			fill(want[i])
			if !sameTables(table, want) {
				t.Errorf("%s: the list %d shares memory: %v", maker.name, i, table)
			}
		}
	}
}

func TestPromise13ProofsOfAllTables(t *testing.T) {
	lists := oddLists()
	tables := [][][]int{nil, {}, lists, make([][]int, 1<<12)}
	for i, list := range lists {
		tables = append(tables, [][]int{list}, [][]int{list, list}, [][]int{{0, 1}, list}, [][]int{{0, 0, 1}, lists[len(lists)-1-i]})
	}
	for _, table := range tables {
		tuples(edges(), 3, func(n []int) {
			got, ok := impl.StakeProof(n[0], n[1], n[2], table)
			fits := areWeights(n[0], n[1]) && isIn(n[2], 1, mostGoal)
			if ok != fits || got != (fits && wager{n[0], n[1], n[2]}.isSafe(table)) {
				t.Errorf("StakeProof of %v and %.99s = %v, %v", n, fmt.Sprint(table), got, ok)
			}
		})
	}
}

func TestPromise13ProofsKeepTheirTables(t *testing.T) {
	for _, w := range someWagers() {
		best := w.table(mostRolls, anyStake)
		for _, table := range [][][]int{best, best[:1], changed(best, 3, 0, -1), {best[0], best[0]}, {best[0], nil}, nil} {
			var given, wholes [][]int
			for _, row := range table {
				list, whole := roomy(row)
				given, wholes = append(given, list), append(wholes, whole)
			}
			lists := slices.Clone(given)
			kept := cloneTable(wholes)
			first, ok := impl.StakeProof(w.a, w.b, w.n, given)
			second, again := impl.StakeProof(w.a, w.b, w.n, given)
			if first != second || !ok || !again || !sameTables(given, lists) || !sameTables(wholes, kept) {
				t.Errorf("StakeProof(%d, %d, %d, %v) changes it, or is %v and then %v", w.a, w.b, w.n, table, first, second)
			}
		}
	}
}
