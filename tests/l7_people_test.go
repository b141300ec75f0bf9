package tests

import (
	"fmt"
	"math"
	"math/big"
	"slices"
	"testing"

	"loop.example/g01131/impl"
)

// winsOf returns for each rule the number of orders of n people in which it takes the best one.
func winsOf(n int) []int {
	wins := make([]int, n)
	orders(n, func(order []int) {
		for r := range wins {
			if order[takenBy(order, func(i int, rank int) bool { return i >= r && rank == 0 })] == 0 {
				wins[r]++
			}
		}
	})
	return wins
}

func factorial(n int) int {
	if n == 0 {
		return 1
	}
	return n * factorial(n-1)
}

// chanceOf goes through the people behind the first r: each one is better than all before with
// the chance of 1 divided by the number of all who have come, and is the best then with the
// chance of this number divided by n.
func chanceOf(n int, r int) *big.Rat {
	chance, nobody := rat(0, 1), rat(1, 1)
	for come := r + 1; come <= n; come++ {
		taken := new(big.Rat).Mul(nobody, rat(1, come))
		chance.Add(chance, new(big.Rat).Mul(taken, rat(come, n)))
		nobody = new(big.Rat).Sub(nobody, taken)
	}
	return chance
}

func TestPromise7SecretaryChances(t *testing.T) {
	for n := 1; n <= mostPeople; n++ {
		for r := range n {
			got, ok := impl.SecretaryChance(n, r)
			checkFraction(t, fmt.Sprint("SecretaryChance of ", n, r), got, ok, chanceOf(n, r))
		}
	}
	for n := 1; n <= 8; n++ {
		for r, wins := range winsOf(n) {
			got, ok := impl.SecretaryChance(n, r)
			checkFraction(t, fmt.Sprint("SecretaryChance of ", n, r), got, ok, rat(wins, factorial(n)))
		}
	}
	for _, x := range []struct {
		n, r int
		want [2]int
	}{
		{1, 0, [2]int{1, 1}}, {2, 0, [2]int{1, 2}}, {2, 1, [2]int{1, 2}}, {3, 1, [2]int{1, 2}}, {3, 2, [2]int{1, 3}}, {4, 1, [2]int{11, 24}},
		{mostPeople, 0, [2]int{1, 10}}, {mostPeople, 3, [2]int{3349, 8400}}, {mostPeople, mostPeople - 1, [2]int{1, 10}},
	} {
		if got, ok := impl.SecretaryChance(x.n, x.r); !ok || got != x.want {
			t.Errorf("SecretaryChance(%d, %d) = %v, %v", x.n, x.r, got, ok)
		}
	}
}

func TestPromise7SecretaryBest(t *testing.T) {
	for i, want := range []int{0, 0, 1, 1, 2, 2, 2, 3, 3, 3} {
		checkCount(t, want)(impl.SecretaryBest(i + 1))
	}
	for n := 1; n <= mostPeople; n++ {
		best := 0
		for r := range n {
			if chanceOf(n, r).Cmp(chanceOf(n, best)) > 0 {
				best = r
			}
		}
		checkCount(t, best)(impl.SecretaryBest(n))
	}
}

func TestPromise7CountWins(t *testing.T) {
	for n := 1; n <= 7; n++ {
		for r, wins := range winsOf(n) {
			checkCount(t, wins)(impl.CountWins(n, r))
		}
	}
	checkCount(t, 1)(impl.CountWins(1, 0))
	checkCount(t, 3)(impl.CountWins(3, 1))
	checkCount(t, 720)(impl.CountWins(7, 0))
	checkCount(t, 2088)(impl.CountWins(7, 2))
	checkCount(t, 720)(impl.CountWins(7, 6))
	for r := range 8 {
		checkNoCount(t)(impl.CountWins(8, r))
	}
}

// setsOf calls visit with all sets of places and ranks of n people who are taken.
func setsOf(n int, visit func(takes func(i int, rank int) bool)) {
	for set := range 1 << (n * (n + 1) / 2) {
		visit(func(i int, rank int) bool { return set>>(i*(i+1)/2+rank)&1 == 1 })
	}
}

// checkPeopleTable checks each number of SecretaryTable but the last one with the greatest count
// of all rules that take nobody before; each rule is a set of places where some rank is taken.
func checkPeopleTable(t *testing.T, n int, rules func(visit func(takes func(i int, rank int) bool))) {
	t.Helper()
	most := make([]int, n+1)
	rules(func(takes func(i int, rank int) bool) {
		wins := make([]int, n)
		orders(n, func(order []int) {
			for gone := range wins {
				place := takenBy(order, func(i int, rank int) bool { return i >= gone && takes(i, rank) })
				if order[place] == 0 {
					wins[gone]++
				}
			}
		})
		for gone := range wins {
			most[gone] = max(most[gone], wins[gone])
		}
	})
	table, ok := impl.SecretaryTable(n)
	if !ok || len(table) != n+1 {
		t.Fatalf("SecretaryTable(%d) = %v, %v", n, table, ok)
	}
	for gone, chance := range table {
		checkFraction(t, fmt.Sprint("SecretaryTable of ", n, " at ", gone), chance, true, rat(most[gone], factorial(n)))
	}
}

// For few people all rules are tried that look at the rank of the last one who has come, and for
// more all that take some who are better than all before.
func TestPromise7NoRuleForTheBestIsBetter(t *testing.T) {
	for n := 1; n <= 4; n++ {
		checkPeopleTable(t, n, func(visit func(takes func(i int, rank int) bool)) { setsOf(n, visit) })
	}
	for n := 5; n <= 6; n++ {
		checkPeopleTable(t, n, func(visit func(takes func(i int, rank int) bool)) {
			for set := range 1 << n {
				visit(func(i int, rank int) bool { return rank == 0 && set>>i&1 == 1 })
			}
		})
	}
}

// It is best to let some more people go, and then to take the first one who is better than all
// before.
func TestPromise7SecretaryTables(t *testing.T) {
	for n := 1; n <= mostPeople; n++ {
		table, ok := impl.SecretaryTable(n)
		if !ok || len(table) != n+1 {
			t.Fatalf("SecretaryTable(%d) = %v, %v", n, table, ok)
		}
		want := rat(0, 1)
		for gone := n; gone >= 0; gone-- {
			if gone < n {
				want = maxRat(want, chanceOf(n, gone))
			}
			checkFraction(t, fmt.Sprint("SecretaryTable of ", n, " at ", gone), table[gone], true, want)
		}
	}
	for _, x := range []struct {
		n    int
		want [][2]int
	}{
		{1, [][2]int{{1, 1}, {0, 1}}}, {2, [][2]int{{1, 2}, {1, 2}, {0, 1}}}, {3, [][2]int{{1, 2}, {1, 2}, {1, 3}, {0, 1}}},
		{4, [][2]int{{11, 24}, {11, 24}, {5, 12}, {1, 4}, {0, 1}}},
	} {
		if got, ok := impl.SecretaryTable(x.n); !ok || !slices.Equal(got, x.want) {
			t.Errorf("SecretaryTable(%d) = %v, %v", x.n, got, ok)
		}
	}
}

// The greatest chance of a rule is that of all ways to choose, and SecretaryBest has it.
func TestPromise7GreatestChances(t *testing.T) {
	for n := 1; n <= mostPeople; n++ {
		table, okTable := impl.SecretaryTable(n)
		best, okBest := impl.SecretaryBest(n)
		chance, ok := impl.SecretaryChance(n, best)
		if !okTable || !okBest || !ok || len(table) == 0 || chance != table[0] {
			t.Errorf("of %d people: %v, %v, %v", n, table, best, chance)
		}
	}
}

func TestPromise7NoRuleForTheRankIsBetter(t *testing.T) {
	for n := 1; n <= 4; n++ {
		least := math.MaxInt
		setsOf(n, func(takes func(i int, rank int) bool) {
			sum := 0
			orders(n, func(order []int) { sum += order[takenBy(order, takes)] + 1 })
			least = min(least, sum)
		})
		got, ok := impl.RankMean(n)
		checkFraction(t, fmt.Sprint("RankMean of ", n), got, ok, rat(least, factorial(n)))
	}
}

// Some of the first ranks are taken at each place: all ways to choose how many are tried.
func TestPromise7NoCutsForTheRankAreBetter(t *testing.T) {
	for n := 5; n <= 6; n++ {
		least, cuts := math.MaxInt, make([]int, n)
		var cut func(i int)
		cut = func(i int) {
			if i < n-1 {
				for cuts[i] = 0; cuts[i] <= i+1; cuts[i]++ {
					cut(i + 1)
				}
				return
			}
			sum := 0
			orders(n, func(order []int) {
				sum += order[takenBy(order, func(i int, rank int) bool { return rank < cuts[i] })] + 1
			})
			least = min(least, sum)
		}
		cut(0)
		got, ok := impl.RankMean(n)
		checkFraction(t, fmt.Sprint("RankMean of ", n), got, ok, rat(least, factorial(n)))
	}
}

// The one who has a rank among i people has, on average, one of (n + 1) / (i + 1) times as much
// among n people.
func TestPromise7RankMeans(t *testing.T) {
	for n := 1; n <= mostPeople; n++ {
		mean := rat(n+1, 2)
		for i := n - 1; i >= 1; i-- {
			sum := rat(0, 1)
			for rank := 1; rank <= i; rank++ {
				now := rat(rank*(n+1), i+1)
				if now.Cmp(mean) > 0 {
					now = mean
				}
				sum.Add(sum, now)
			}
			mean = sum.Quo(sum, rat(i, 1))
		}
		got, ok := impl.RankMean(n)
		checkFraction(t, fmt.Sprint("RankMean of ", n), got, ok, mean)
	}
	for i, want := range [][2]int{{1, 1}, {3, 2}, {5, 3}, {15, 8}, {41, 20}, {133, 60}, {239, 105}, {12, 5}, {629, 252}, {3223, 1260}} {
		if got, ok := impl.RankMean(i + 1); !ok || got != want {
			t.Errorf("RankMean(%d) = %v, %v", i+1, got, ok)
		}
	}
}

func TestPromise7NoPeople(t *testing.T) {
	for _, n := range []int{0, -1, mostPeople + 1, math.MaxInt, math.MinInt} {
		checkNoCount(t)(impl.SecretaryBest(n))
		if got, ok := impl.SecretaryTable(n); ok || len(got) > 0 {
			t.Errorf("SecretaryTable(%d) = %v, %v", n, got, ok)
		}
		if got, ok := impl.RankMean(n); ok || got != [2]int{} {
			t.Errorf("RankMean(%d) = %v, %v", n, got, ok)
		}
		for _, r := range []int{-1, 0, 1, n - 1, n} {
			checkNoSuchRule(t, n, r)
		}
	}
	for n := 1; n <= mostPeople; n++ {
		for _, r := range []int{-1, n, n + 1, math.MaxInt, math.MinInt} {
			checkNoSuchRule(t, n, r)
		}
	}
}

func checkNoSuchRule(t *testing.T, n int, r int) {
	t.Helper()
	checkNoCount(t)(impl.CountWins(n, r))
	if got, ok := impl.SecretaryChance(n, r); ok || got != [2]int{} {
		t.Errorf("SecretaryChance(%d, %d) = %v, %v", n, r, got, ok)
	}
}
