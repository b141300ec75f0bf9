package tests

import (
	"fmt"
	"math"
	"slices"
	"testing"

	"loop.example/g01131/impl"
)

// tableMaker is one of the functions that return tables, with its way to stake.
type tableMaker struct {
	name   string
	call   func(a int, b int, n int, k int) ([][]int, bool)
	stakes func(most int) []int
}

func tableMakers() []tableMaker {
	return []tableMaker{
		{"TimidTable", impl.TimidTable, timid}, {"BoldTable", impl.BoldTable, bold}, {"BestStakeTable", impl.BestStakeTable, anyStake},
	}
}

func TestPromise5Tables(t *testing.T) {
	for _, maker := range tableMakers() {
		for _, w := range someWagers() {
			for k := range mostRolls + 1 {
				want := w.table(k, maker.stakes)
				if got, ok := maker.call(w.a, w.b, w.n, k); !ok || !sameTables(got, want) {
					t.Errorf("%s(%d, %d, %d, %d) = %v, %v; want %v", maker.name, w.a, w.b, w.n, k, got, ok, want)
				}
			}
		}
	}
}

func TestPromise5TablesOfKnownNumbers(t *testing.T) {
	for _, x := range []struct {
		a, b, n, k        int
		timid, bold, best [][]int
	}{
		{
			1, 2, 4, 2,
			[][]int{{0, 0, 0, 0, 1}, {0, 0, 0, 1, 3}, {0, 0, 1, 3, 9}}, [][]int{{0, 0, 0, 0, 1}, {0, 0, 1, 1, 3}, {0, 1, 3, 5, 9}}, [][]int{{0, 0, 0, 0, 1}, {0, 0, 1, 1, 3}, {0, 1, 3, 5, 9}},
		},
		{
			2, 1, 3, 2,
			[][]int{{0, 0, 0, 1}, {0, 0, 2, 3}, {0, 4, 6, 9}}, [][]int{{0, 0, 0, 1}, {0, 0, 2, 3}, {0, 4, 6, 9}}, [][]int{{0, 0, 0, 1}, {0, 0, 2, 3}, {0, 4, 6, 9}},
		},
		{
			2, 1, 4, 2,
			[][]int{{0, 0, 0, 0, 1}, {0, 0, 0, 2, 3}, {0, 0, 4, 6, 9}}, [][]int{{0, 0, 0, 0, 1}, {0, 0, 2, 2, 3}, {0, 4, 6, 8, 9}}, [][]int{{0, 0, 0, 0, 1}, {0, 0, 2, 2, 3}, {0, 4, 6, 8, 9}},
		},
		{5, 3, 1, 2, [][]int{{0, 1}, {0, 8}, {0, 64}}, [][]int{{0, 1}, {0, 8}, {0, 64}}, [][]int{{0, 1}, {0, 8}, {0, 64}}},
		{5, 3, 2, 0, [][]int{{0, 0, 1}}, [][]int{{0, 0, 1}}, [][]int{{0, 0, 1}}},
	} {
		for i, want := range [][][]int{x.timid, x.bold, x.best} {
			maker := tableMakers()[i]
			if got, ok := maker.call(x.a, x.b, x.n, x.k); !ok || !sameTables(got, want) {
				t.Errorf("%s(%d, %d, %d, %d) = %v, %v", maker.name, x.a, x.b, x.n, x.k, got, ok)
			}
		}
	}
}

// At a goal of 1 nothing can be staked, and at 0 and at the goal nothing is.
func TestPromise5TablesAtBothEnds(t *testing.T) {
	for _, maker := range tableMakers() {
		for _, w := range allWagers() {
			table, ok := maker.call(w.a, w.b, w.n, mostRolls)
			all := 1
			for k := range mostRolls + 1 {
				if !ok || len(table) != mostRolls+1 || len(table[k]) != w.n+1 || table[k][0] != 0 || table[k][w.n] != all {
					t.Fatalf("%s(%d, %d, %d, %d) = %v, %v", maker.name, w.a, w.b, w.n, mostRolls, table, ok)
				}
				all *= w.a + w.b
			}
		}
	}
}

func TestPromise5BoldPlayIsBestIfRollsAreNotMoreOftenWon(t *testing.T) {
	better := 0
	for _, w := range allWagers() {
		best, okBest := impl.BestStakeTable(w.a, w.b, w.n, mostRolls)
		played, okBold := impl.BoldTable(w.a, w.b, w.n, mostRolls)
		isSafe, okProof := impl.StakeProof(w.a, w.b, w.n, played)
		isBest := sameTables(played, best)
		if !okBest || !okBold || !okProof || w.a <= w.b && !isBest || isSafe != isBest {
			t.Errorf("bold play for %v: %v, best %v, safe %v", w, played, best, isSafe)
		}
		if !isBest {
			better++
		}
	}
	if better == 0 {
		t.Error("bold play is best for all weights")
	}
}

// No way to stake is better, whatever is staked at each fortune with each number of rolls left.
func TestPromise5NoStakesAreBetter(t *testing.T) {
	rolls := &dice{5}
	for _, w := range someWagers() {
		best, _ := impl.BestStakeTable(w.a, w.b, w.n, mostRolls)
		for range 5 {
			played := w.table(mostRolls, func(most int) []int { return []int{rolls.between(0, most)} })
			checkNowhereLess(t, best, played)
		}
		for _, maker := range tableMakers() {
			played, _ := maker.call(w.a, w.b, w.n, mostRolls)
			checkNowhereLess(t, best, played)
		}
	}
}

func checkNowhereLess(t *testing.T, table [][]int, least [][]int) {
	t.Helper()
	for k, row := range least {
		for i, number := range row {
			if table[k][i] < number {
				t.Errorf("with %d rolls left %d has %d, less than %d", k, i, table[k][i], number)
			}
		}
	}
}

func TestPromise5NoTables(t *testing.T) {
	checkNone := func(w wager, k int) {
		for _, maker := range tableMakers() {
			if got, ok := maker.call(w.a, w.b, w.n, k); ok || len(got) > 0 {
				t.Errorf("%s(%d, %d, %d, %d) = %v, %v", maker.name, w.a, w.b, w.n, k, got, ok)
			}
		}
	}
	for _, w := range badWagers() {
		checkNone(w, 0)
		checkNone(w, 1)
		checkNone(w, mostRolls)
	}
	for _, w := range someWagers() {
		for _, k := range []int{-1, mostRolls + 1, math.MaxInt, math.MinInt} {
			checkNone(w, k)
		}
	}
}

// checkProof compares a proof with the definition, and returns it.
func (w wager) checkProof(t *testing.T, table [][]int) bool {
	t.Helper()
	want := w.isSafe(table)
	if got, ok := impl.StakeProof(w.a, w.b, w.n, table); !ok || got != want {
		t.Errorf("StakeProof(%d, %d, %d, %.99s) = %v, %v", w.a, w.b, w.n, fmt.Sprint(table), got, ok)
	}
	return want
}

// mustBe checks a proof whose result is known.
func (w wager) mustBe(t *testing.T, want bool, table [][]int) {
	t.Helper()
	if w.checkProof(t, table) != want {
		t.Errorf("for %v, %.99s is not %v", w, fmt.Sprint(table), want)
	}
}

// changed returns a copy of a table with one number that is greater by n.
func changed(table [][]int, k int, i int, n int) [][]int {
	clone := cloneTable(table)
	clone[k][i] += n
	return clone
}

func TestPromise5BestTablesAreSafeAndJustNot(t *testing.T) {
	for _, w := range someWagers() {
		best := w.table(mostRolls, anyStake)
		for k := range best {
			w.mustBe(t, true, best[:k+1])
		}
		for k := range best {
			for i := range best[k] {
				w.mustBe(t, false, changed(best, k, i, -1))
				w.mustBe(t, false, changed(best[:k+1], k, i, -1))
				w.mustBe(t, true, changed(best[:k+1], k, i, 1))
				w.checkProof(t, changed(best, k, i, 1))
			}
		}
	}
}

// rolledTable returns a table of rolled numbers that is safe, in which some numbers are greater
// than they must be.
func rolledTable(rolls *dice, w wager, k int, more int) [][]int {
	row := make([]int, w.n+1)
	for i := range row {
		row[i] = rolls.below(1000) + 1
	}
	table := [][]int{row}
	for range k {
		row = w.rowBefore(row, anyStake)
		for i := range row {
			row[i] += rolls.below(more + 1)
		}
		table = append(table, row)
	}
	return table
}

func TestPromise5OtherTablesAreSafeAndJustNot(t *testing.T) {
	rolls := &dice{55}
	for _, w := range someWagers() {
		for k := range 5 {
			table := rolledTable(rolls, w, k, 0)
			w.mustBe(t, true, table)
			w.mustBe(t, true, rolledTable(rolls, w, k, 2))
			for i := range table[k] {
				w.mustBe(t, k == 0, changed(table, k, i, -1))
				w.checkProof(t, changed(rolledTable(rolls, w, k, 1), k, i, -1))
				w.checkProof(t, changed(table, rolls.below(k+1), i, rolls.between(-1, 1)))
			}
		}
	}
}

// Each stake alone makes a table unsafe: the numbers behind a roll that it would win or lose are
// the only ones that count.
func TestPromise5EachStakeCounts(t *testing.T) {
	for _, w := range someWagers() {
		for i := 0; i <= w.n; i++ {
			for _, stake := range anyStake(min(i, w.n-i)) {
				for _, behind := range []int{i + stake, i - stake} {
					row := make([]int, w.n+1)
					row[w.n] = 1
					row[behind] = 1000
					table := [][]int{row, w.rowBefore(row, anyStake)}
					w.mustBe(t, true, table)
					w.mustBe(t, false, changed(table, 1, i, -1))
				}
			}
		}
	}
}

// A safe table has no number that is less than that of BestStakeTable.
func TestPromise5SafeTablesBoundTheBest(t *testing.T) {
	rolls := &dice{555}
	for _, w := range someWagers() {
		best, _ := impl.BestStakeTable(w.a, w.b, w.n, 4)
		for range 9 {
			table := changed(w.table(4, anyStake), rolls.below(5), rolls.below(w.n+1), rolls.between(-2, 2))
			if isSafe, _ := impl.StakeProof(w.a, w.b, w.n, table); isSafe {
				checkNowhereLess(t, table, best)
			}
		}
		checkNowhereLess(t, rolledTable(rolls, w, 4, 3), best)
	}
}

func TestPromise5NumbersOfTablesAreInBounds(t *testing.T) {
	for _, w := range someWagers() {
		for i := 0; i <= w.n; i++ {
			row := make([]int, w.n+1)
			row[w.n] = 1
			for number, want := range map[int]bool{mostTable: true, mostTable + 1: false, math.MaxInt: false, -1: false, math.MinInt: false} {
				row[i] = number
				w.mustBe(t, want, [][]int{row})
				w.mustBe(t, false, [][]int{row, row})
				w.mustBe(t, want, [][]int{atGoal(w.n), slices.Repeat([]int{number}, w.n+1)})
			}
		}
		w.mustBe(t, false, [][]int{make([]int, w.n+1)})
		w.mustBe(t, false, [][]int{append(slices.Repeat([]int{7}, w.n), 0), slices.Repeat([]int{mostTable}, w.n+1)})
		w.mustBe(t, true, [][]int{append(make([]int, w.n), 2)})
	}
}

// atGoal returns the list of the chances of a goal without rolls.
func atGoal(n int) []int {
	return append(make([]int, n), 1)
}

// 40 times this number is MaxTable, so that the second list is just great enough and just not too
// great.
func TestPromise5TheGreatestTable(t *testing.T) {
	for n := 1; n <= mostGoal; n++ {
		w := wager{mostWeight, mostWeight, n}
		first, second := slices.Repeat([]int{25000000000000}, n+1), slices.Repeat([]int{mostTable}, n+1)
		w.mustBe(t, true, [][]int{first, second})
		w.mustBe(t, false, [][]int{first, second, second})
		for i := range n + 1 {
			w.mustBe(t, false, changed([][]int{first, second}, 1, i, -1))
			w.mustBe(t, false, changed([][]int{first, second}, 1, i, 1))
			w.mustBe(t, false, changed([][]int{first, second}, 0, i, 1))
			w.mustBe(t, true, changed([][]int{first}, 0, i, mostTable-first[i]))
		}
	}
}

func TestPromise5TablesOfOtherSizes(t *testing.T) {
	for _, w := range someWagers() {
		best := w.table(mostRolls+2, anyStake)
		w.mustBe(t, true, best[:mostRolls+1])
		w.mustBe(t, false, best[:mostRolls+2])
		w.mustBe(t, false, best)
		w.mustBe(t, false, nil)
		w.mustBe(t, false, [][]int{})
		w.mustBe(t, false, [][]int{nil})
		for k := range mostRolls + 1 {
			for _, row := range [][]int{nil, {}, best[k][:w.n], append(slices.Clone(best[k]), 0), append(slices.Clone(best[k]), best[k][w.n]), make([]int, 1<<12)} {
				other := cloneTable(best[:mostRolls+1])
				other[k] = row
				w.mustBe(t, false, other)
			}
		}
	}
	wager{1, 1, 1}.mustBe(t, false, make([][]int, 1<<20))
}

func TestPromise5ProofsFailForOtherWagersOnly(t *testing.T) {
	for _, w := range badWagers() {
		for _, table := range [][][]int{nil, {{0, 0, 1}}, {{0, 1}}, {{0}}, {atGoal(mostGoal)}, {atGoal(mostGoal + 1)}, {slices.Repeat([]int{1}, 3)}} {
			if got, ok := impl.StakeProof(w.a, w.b, w.n, table); ok || got {
				t.Errorf("StakeProof(%d, %d, %d, %v) = %v, %v", w.a, w.b, w.n, table, got, ok)
			}
		}
	}
}
