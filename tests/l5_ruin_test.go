package tests

import (
	"fmt"
	"math"
	"testing"

	"loop.example/g01131/impl"
)

func TestPromise5RuinChance(t *testing.T) {
	failed, all := 0, 0
	for _, w := range allWagers() {
		for i, want := range w.chances() {
			got, ok := impl.RuinChance(w.a, w.b, i, w.n)
			checkFraction(t, fmt.Sprintf("RuinChance(%d, %d, %d, %d)", w.a, w.b, i, w.n), got, ok, want)
			all++
			if !ok {
				failed++
			}
		}
	}
	if failed == 0 || failed == all {
		t.Errorf("%d of %d chances are no fractions", failed, all)
	}
}

func TestPromise5RuinMean(t *testing.T) {
	failed, all := 0, 0
	for _, w := range allWagers() {
		for i, want := range w.means() {
			got, ok := impl.RuinMean(w.a, w.b, i, w.n)
			checkFraction(t, fmt.Sprintf("RuinMean(%d, %d, %d, %d)", w.a, w.b, i, w.n), got, ok, want)
			all++
			if !ok {
				failed++
			}
		}
	}
	if failed == 0 || failed == all {
		t.Errorf("%d of %d means are no fractions", failed, all)
	}
}

func TestPromise5RuinOfKnownNumbers(t *testing.T) {
	for _, x := range []struct {
		a, b, i, n   int
		chance, mean [2]int
	}{
		{1, 1, 2, 5, [2]int{2, 5}, [2]int{6, 1}}, {2, 1, 1, 2, [2]int{2, 3}, [2]int{1, 1}}, {1, 2, 1, 2, [2]int{1, 3}, [2]int{1, 1}},
		{1, 2, 2, 4, [2]int{1, 5}, [2]int{18, 5}}, {2, 4, 2, 4, [2]int{1, 5}, [2]int{18, 5}}, {7, 7, 4, 12, [2]int{1, 3}, [2]int{32, 1}},
		{1, 3, 1, 3, [2]int{1, 13}, [2]int{20, 13}}, {3, 1, 2, 3, [2]int{12, 13}, [2]int{20, 13}}, {20, 20, 6, 12, [2]int{1, 2}, [2]int{36, 1}},
		{9, 1, 1, 7, [2]int{531441, 597871}, [2]int{3902770, 597871}},
	} {
		chance, okChance := impl.RuinChance(x.a, x.b, x.i, x.n)
		mean, okMean := impl.RuinMean(x.a, x.b, x.i, x.n)
		if !okChance || !okMean || chance != x.chance || mean != x.mean {
			t.Errorf("ruin of %d, %d from %d to %d: %v, %v, %v, %v", x.a, x.b, x.i, x.n, chance, okChance, mean, okMean)
		}
	}
}

// The denominator of both is greater by 1 than that of a fraction may be.
func TestPromise5RuinThatJustIsNoFraction(t *testing.T) {
	for _, w := range []wager{{1, 10, 12}, {10, 1, 12}, {2, 20, 12}, {20, 2, 12}} {
		if chance, ok := impl.RuinChance(w.a, w.b, 6, w.n); ok || chance != [2]int{} {
			t.Errorf("RuinChance(%d, %d, 6, %d) = %v, %v", w.a, w.b, w.n, chance, ok)
		}
		if mean, ok := impl.RuinMean(w.a, w.b, 6, w.n); ok || mean != [2]int{} {
			t.Errorf("RuinMean(%d, %d, 6, %d) = %v, %v", w.a, w.b, w.n, mean, ok)
		}
	}
}

func TestPromise5MeansOfChancesThatAreNoFractions(t *testing.T) {
	chance, okChance := impl.RuinChance(1, 4, 1, 12)
	mean, okMean := impl.RuinMean(1, 4, 1, 12)
	if okChance || chance != [2]int{} || !okMean || mean != [2]int{621377, 372827} {
		t.Errorf("%v, %v, %v, %v", chance, okChance, mean, okMean)
	}
}

func TestPromise5RuinAtBothEnds(t *testing.T) {
	for _, w := range allWagers() {
		for i, want := range map[int][2]int{0: {0, 1}, w.n: {1, 1}} {
			if chance, ok := impl.RuinChance(w.a, w.b, i, w.n); !ok || chance != want {
				t.Errorf("RuinChance(%d, %d, %d, %d) = %v, %v", w.a, w.b, i, w.n, chance, ok)
			}
			if mean, ok := impl.RuinMean(w.a, w.b, i, w.n); !ok || mean != [2]int{0, 1} {
				t.Errorf("RuinMean(%d, %d, %d, %d) = %v, %v", w.a, w.b, i, w.n, mean, ok)
			}
		}
	}
}

func TestPromise5RuinSteps(t *testing.T) {
	for _, w := range someWagers() {
		for i := 0; i <= w.n; i++ {
			for k := 0; k <= mostRolls; k++ {
				want := make([]int, w.n+1)
				w.steps(want, i, k, 1)
				checkList(t, want)(impl.RuinSteps(w.a, w.b, i, w.n, k))
			}
		}
	}
}

func TestPromise5RuinStepsOfKnownNumbers(t *testing.T) {
	checkList(t, []int{2, 1, 0, 1})(impl.RuinSteps(1, 1, 1, 3, 2))
	checkList(t, []int{0, 4, 0, 6, 15})(impl.RuinSteps(3, 2, 3, 4, 2))
	checkList(t, []int{0, 1, 0, 0})(impl.RuinSteps(3, 2, 1, 3, 0))
	checkList(t, []int{25, 0})(impl.RuinSteps(3, 2, 0, 1, 2))
	checkList(t, []int{0, 25})(impl.RuinSteps(3, 2, 1, 1, 2))
}

func TestPromise5RuinStepsAtBothEnds(t *testing.T) {
	for _, w := range allWagers() {
		all := 1
		for k := range mostRolls + 1 {
			for _, i := range []int{0, w.n} {
				want := make([]int, w.n+1)
				want[i] = all
				checkList(t, want)(impl.RuinSteps(w.a, w.b, i, w.n, k))
			}
			all *= w.a + w.b
		}
	}
}

// All chances have the sum 1 behind any number of rolls.
func TestPromise5RuinStepsFollowTimidTables(t *testing.T) {
	for _, w := range someWagers() {
		table, _ := impl.TimidTable(w.a, w.b, w.n, mostRolls)
		all := 1
		for k := range mostRolls + 1 {
			for i := 0; i <= w.n; i++ {
				steps, ok := impl.RuinSteps(w.a, w.b, i, w.n, k)
				sum := 0
				for _, chance := range steps {
					sum += chance
				}
				if !ok || sum != all || steps[w.n] != table[k][i] {
					t.Errorf("RuinSteps(%d, %d, %d, %d, %d) = %v, %v; want %d of %d", w.a, w.b, i, w.n, k, steps, ok, table[k][i], all)
				}
			}
			all *= w.a + w.b
		}
	}
}

func checkNoSteps(t *testing.T, w wager, i int, k int) {
	t.Helper()
	if steps, ok := impl.RuinSteps(w.a, w.b, i, w.n, k); ok || len(steps) > 0 {
		t.Errorf("RuinSteps(%d, %d, %d, %d, %d) = %v, %v", w.a, w.b, i, w.n, k, steps, ok)
	}
}

func checkNoRuin(t *testing.T, w wager, i int) {
	t.Helper()
	checkNoSteps(t, w, i, 0)
	checkNoSteps(t, w, i, mostRolls)
	if chance, ok := impl.RuinChance(w.a, w.b, i, w.n); ok || chance != [2]int{} {
		t.Errorf("RuinChance(%d, %d, %d, %d) = %v, %v", w.a, w.b, i, w.n, chance, ok)
	}
	if mean, ok := impl.RuinMean(w.a, w.b, i, w.n); ok || mean != [2]int{} {
		t.Errorf("RuinMean(%d, %d, %d, %d) = %v, %v", w.a, w.b, i, w.n, mean, ok)
	}
}

func TestPromise5NoRuin(t *testing.T) {
	for _, w := range badWagers() {
		for _, i := range []int{0, 1, 2, w.n} {
			checkNoRuin(t, w, i)
		}
	}
	for _, w := range someWagers() {
		for _, i := range []int{-1, w.n + 1, mostGoal + 1, math.MaxInt, math.MinInt} {
			checkNoRuin(t, w, i)
		}
		for _, k := range []int{-1, mostRolls + 1, math.MaxInt, math.MinInt} {
			checkNoSteps(t, w, 0, k)
			checkNoSteps(t, w, w.n, k)
		}
	}
}
