package tests

import (
	"fmt"
	"math"
	"slices"
	"testing"

	"loop.example/g01131/impl"
)

// betCalls returns a call of each function of chapter 11 that has numbers alone as arguments.
func betCalls() []numberCall {
	isBet := func(n []int) bool {
		return isIn(n[0], 1, mostOdds) && isIn(n[1], 1, mostOdds) && areLuck(n[2], n[3])
	}
	haveGrid := func(n []int) bool { return isBet(n) && isIn(n[4], 1, mostGrid) }
	return []numberCall{
		{"GrowthOf", 6, func(n []int) (any, bool) { return anyOf(impl.GrowthOf(n[0], n[1], n[2], n[3], n[4], n[5])) }, func(n []int) bool {
			return haveGrid(n) && isIn(n[5], 0, n[4])
		}},
		{"BestShare", 5, func(n []int) (any, bool) { return anyOf(impl.BestShare(n[0], n[1], n[2], n[3], n[4])) }, haveGrid},
		{"FairShare", 4, func(n []int) (any, bool) { return anyOf(impl.FairShare(n[0], n[1], n[2], n[3])) }, isBet},
		{"IsFairBet", 4, func(n []int) (any, bool) { return anyOf(impl.IsFairBet(n[0], n[1], n[2], n[3])) }, isBet},
		{"PurseSpread", 6, func(n []int) (any, bool) {
			return purse{n[0], n[1], n[2], n[3], n[4], n[5]}.call()
		}, func(n []int) bool { return purse{n[0], n[1], n[2], n[3], n[4], n[5]}.isValid() }},
	}
}

// outlay is what functions of lists may be called with.
type outlay struct {
	a, b                       []int
	w, l, rounds, coins, stake int
}

// listCall calls one function of lists, and returns its results but for the last one, and this;
// isValid tells whether the call succeeds.
type listCall struct {
	name    string
	call    func(x outlay) (any, bool)
	isValid func(x outlay) bool
}

// listCalls returns a call of each function of chapter 11 that has a list as its argument.
func listCalls() []listCall {
	haveMean := func(x outlay) bool { return isSpread(x.a) && isUse(x.b) && len(x.a) == len(x.b) }
	haveUse := func(x outlay) bool { return isUse(x.a) }
	haveTable := func(x outlay) bool { return hoard{x.a, x.w, x.l}.isValid() && isIn(x.rounds, 0, mostRounds) }
	haveStake := func(x outlay) bool { return haveTable(x) && x.rounds > 0 && isIn(x.coins, 0, len(x.a)-1) }
	return []listCall{
		{"SplitGrowth", func(x outlay) (any, bool) { return anyOf(impl.SplitGrowth(x.a, x.b)) }, func(x outlay) bool {
			return isRace(x.a) && isSplit(len(x.a), x.b)
		}},
		{"BestSplit", func(x outlay) (any, bool) { return anyOf(impl.BestSplit(x.a, x.rounds)) }, func(x outlay) bool {
			return isRace(x.a) && isIn(x.rounds, 0, mostSplit)
		}},
		{"IsUse", func(x outlay) (any, bool) { ok := impl.IsUse(x.a); return ok, ok }, haveUse},
		{"IsRising", func(x outlay) (any, bool) { return anyOf(impl.IsRising(x.a)) }, haveUse},
		{"IsConcave", func(x outlay) (any, bool) { return anyOf(impl.IsConcave(x.a)) }, haveUse},
		{"MeanUse", func(x outlay) (any, bool) { return anyOf(impl.MeanUse(x.a, x.b)) }, haveMean},
		{"SureCoins", func(x outlay) (any, bool) { return anyOf(impl.SureCoins(x.a, x.b)) }, haveMean},
		{"UseTable", func(x outlay) (any, bool) { return anyOf(impl.UseTable(x.a, x.w, x.l, x.rounds)) }, haveTable},
		{"UseStake", func(x outlay) (any, bool) { return anyOf(impl.UseStake(x.a, x.w, x.l, x.rounds, x.coins)) }, haveStake},
		{"StakePlan", func(x outlay) (any, bool) { return anyOf(impl.StakePlan(x.a, x.w, x.l, x.rounds)) }, haveTable},
		{"StakeLoss", func(x outlay) (any, bool) {
			return anyOf(impl.StakeLoss(x.a, x.w, x.l, x.rounds, x.coins, x.stake))
		}, func(x outlay) bool {
			return haveStake(x) && isIn(x.stake, 0, min(x.coins, len(x.a)-1-x.coins))
		}},
	}
}

// stakeEdges returns numbers at the limits of chapter 11 and just beyond them, and those at the
// limits of int.
func stakeEdges() []int {
	return []int{0, 1, -1, mostLuck, mostLuck + 1, mostRounds + 1, mostOdds, mostGrid, mostGrid + 1, mostHoard, mostHoard + 1, math.MaxInt, math.MinInt}
}

// stakeLists returns lists of all kinds, with races, splits, spreads and uses at the limits and just
// beyond them among them.
func stakeLists() [][]int {
	lists := append(oddLists(), badRaces()...)
	for _, size := range []int{1, 2, mostRunners, mostRunners + 1, mostSpots, mostSpots + 1, mostHoard + 1, mostHoard + 2} {
		lists = append(lists, make([]int, size), facesOf(size), slices.Repeat([]int{1}, size), slices.Repeat([]int{mostUse}, size), append(make([]int, size-1), mostUse+1))
	}
	return append(lists, []int{mostSplit}, []int{mostSplit + 1}, []int{mostSplit, 0}, []int{3, 3, 3, 3}, []int{mostUnits}, []int{0, 5, 1, 2})
}

// A panic in a call fails the test, as does a call that does not return.
func TestPromise13BetsOfAllNumbers(t *testing.T) {
	for _, call := range betCalls() {
		tuples(stakeEdges(), call.size, func(n []int) {
			result, ok := call.call(n)
			if ok != call.isValid(n) || !ok && !isNothing(result) {
				t.Errorf("%s of %v = %v, %v", call.name, n, result, ok)
			}
		})
	}
}

// checkOutlay makes all calls with the same arguments.
func checkOutlay(t *testing.T, x outlay) {
	t.Helper()
	for _, call := range listCalls() {
		result, ok := call.call(x)
		if ok != call.isValid(x) || !ok && !isNothing(result) {
			t.Fatalf("%s of %.99s = %v, %v", call.name, fmt.Sprint(x), result, ok)
		}
	}
}

func TestPromise13StakesOfAllKinds(t *testing.T) {
	numbers, lists := stakeEdges(), stakeLists()
	for i, a := range lists {
		for k, b := range lists {
			n := func(step int) int { return numbers[(i+step*k)%len(numbers)] }
			checkOutlay(t, outlay{a, b, 2, 1, mostRounds, 0, 0})
			checkOutlay(t, outlay{a, b, n(1), n(2), n(3), n(5), n(7)})
		}
	}
}

// These lists are valid, so that the numbers alone tell whether a call fails.
func TestPromise13StakesOfAllNumbers(t *testing.T) {
	for _, a := range [][]int{{1}, {2, 1}, {0, 4, 1}, {1, 1, 1, 1}, {0, 1, 4, 9, 16}, facesOf(mostHoard + 1), slices.Repeat([]int{mostUse}, mostHoard+1)} {
		tuples([]int{-1, 0, 1, 2, mostLuck, mostRounds, mostRounds + 1, mostHoard, mostHoard + 1, math.MaxInt, math.MinInt}, 3, func(n []int) {
			for _, luck := range append(allLucks()[:6], badLucks()...) {
				checkOutlay(t, outlay{a, a, luck[0], luck[1], n[0], n[1], n[2]})
			}
		})
	}
}

func TestPromise13BetsAreTheirOwn(t *testing.T) {
	for _, call := range betCalls() {
		tuples([]int{0, 1, 2, mostLuck, mostRounds}, call.size, func(n []int) {
			checkSame(t, fmt.Sprint(call.name, " of ", n), func() (any, bool) { return call.call(n) })
		})
	}
}

// keptLists returns lists of which some are races, splits, spreads or uses.
func keptLists() [][]int {
	return [][]int{
		nil, {0}, {1}, {2, 1}, {0, 3}, {1, 0, 2}, {3, 2, 1, 4}, {4, 4, 4, 0}, {4, 4, 4, 1}, {0, 1, 4, 9}, {9, 4, 1, 0, 0}, {1, -1}, {mostUse, mostUse + 1}, {mostUnits, 0}, facesOf(mostSpots), facesOf(mostHoard + 1), slices.Repeat([]int{mostUse}, mostHoard+1), make([]int, mostHoard+2),
	}
}

func TestPromise13StakesStayAsTheyAre(t *testing.T) {
	for _, a := range keptLists() {
		for _, b := range keptLists() {
			for _, n := range [][5]int{{1, 1, 1, 1, 0}, {2, 1, mostRounds, 2, 1}, {0, 1, 2, 0, 0}, {mostLuck, 0, 3, 3, 1}, {0, 0, 1, 1, 1}, {1, 2, 0, 1, 0}, {1, 2, mostRounds + 1, -1, 1}, {3, 3, 1, 1, 9}} {
				for _, call := range listCalls() {
					given, wholes := roomyLists([][]int{a, b})
					kept := cloneTable(wholes)
					x := outlay{given[0], given[1], n[0], n[1], n[2], n[3], n[4]}
					checkSame(t, fmt.Sprint(call.name, " of ", x), func() (any, bool) { return call.call(x) })
					if !sameTables(wholes, kept) {
						t.Fatalf("%s of %v changes an argument or shares its memory", call.name, x)
					}
				}
			}
		}
	}
}

// One list may be the weights and the split, or the spread and the use.
func TestPromise13StakesThatAreOneList(t *testing.T) {
	for _, list := range keptLists() {
		given, whole := roomy(list)
		kept := slices.Clone(whole)
		for _, call := range listCalls() {
			x := outlay{given, given, 1, 2, 2, 0, 0}
			checkSame(t, fmt.Sprint(call.name, " of ", list), func() (any, bool) { return call.call(x) })
			if !slices.Equal(whole, kept) {
				t.Fatalf("%s of %v changes its argument", call.name, list)
			}
		}
	}
}

// Each row of a table is written to, the room behind its end included, and the others stay.
func TestPromise13RowsOfRoundsAreTheirOwn(t *testing.T) {
	for _, h := range fewHoards() {
		for _, maker := range []func(u []int, w int, l int, rounds int) ([][]int, bool){impl.UseTable, impl.StakePlan} {
			table, ok := maker(h.u, h.w, h.l, mostRounds)
			for i, row := range table {
				want := cloneTable(table)
				fill(row)
				fill(want[i])
				if !ok || !sameTables(table, want) {
					t.Errorf("the row %d of a table of %v shares memory: %v", i, h, table)
				}
			}
		}
	}
}
