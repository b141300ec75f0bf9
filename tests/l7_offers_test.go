package tests

import (
	"fmt"
	"math"
	"math/big"
	"slices"
	"testing"

	"loop.example/g01131/impl"
)

func TestPromise7Limits(t *testing.T) {
	if impl.MaxLaws != mostLaws || impl.MaxValues != mostValues || impl.MaxPeople != mostPeople || impl.MaxBoxFee != mostBoxFee {
		t.Error("the limits of chapter 7 are others")
	}
}

func TestPromise7Laws(t *testing.T) {
	for size := range 4 {
		tuples([]int{-1, 0, 1, mostValues, mostValues + 1}, size, func(w []int) {
			want := size > 0 && areFrom(w, 0, mostValues) && slices.Max(w) > 0
			if impl.IsLaw(w) != want {
				t.Errorf("IsLaw(%v) = %v", w, !want)
			}
		})
	}
	for _, law := range slices.Concat(limitLaws(), lawsOf(mostValues, 0, 1, mostValues)) {
		if !impl.IsLaw(law) {
			t.Errorf("IsLaw(%v) = false", law)
		}
	}
	for _, bad := range badLaws() {
		if impl.IsLaw(bad) {
			t.Errorf("IsLaw(%.9v) = true", bad)
		}
	}
}

func TestPromise7LawMeans(t *testing.T) {
	for _, law := range slices.Concat(limitLaws(), lawsOf(mostValues, 0, 1, 2, mostValues)) {
		got, ok := impl.LawMean(law)
		want := meanOver([][]int{law}, func(values []int) int { return values[0] })
		checkFraction(t, fmt.Sprint("LawMean of ", law), got, ok, want)
	}
	for _, x := range []struct {
		law  []int
		want [2]int
	}{
		{[]int{1}, [2]int{0, 1}}, {[]int{mostValues}, [2]int{0, 1}}, {[]int{1, 0, 1}, [2]int{1, 1}}, {[]int{1, 2}, [2]int{2, 3}},
		{[]int{0, 0, 0, 0, mostValues}, [2]int{4, 1}}, {[]int{5, 5, 5, 5, 5}, [2]int{2, 1}}, {[]int{5, 5, 5, 5, 4}, [2]int{23, 12}},
	} {
		if got, ok := impl.LawMean(x.law); !ok || got != x.want {
			t.Errorf("LawMean(%v) = %v, %v", x.law, got, ok)
		}
	}
	for _, bad := range badLaws() {
		if got, ok := impl.LawMean(bad); ok || got != [2]int{} {
			t.Errorf("LawMean(%.9v) = %v, %v", bad, got, ok)
		}
	}
}

func TestPromise7BestOfLaws(t *testing.T) {
	for _, laws := range someOffers() {
		want := make([]int, mostValues)
		draws(laws, func(values []int, weight int) { want[greatestOf(values)] += weight })
		checkList(t, want)(impl.BestOfLaws(laws))
	}
	checkList(t, []int{1, 0, 0, 0, 0})(impl.BestOfLaws(nil))
	checkList(t, []int{1, 1, 2, 0, 0})(impl.BestOfLaws([][]int{{1, 1}, {1, 0, 1}}))
	checkList(t, []int{625, 0, 0, 0, 0})(impl.BestOfLaws([][]int{{5}, {5}, {5}, {5}}))
	checkList(t, []int{625, 15 * 625, 65 * 625, 175 * 625, 369 * 625})(impl.BestOfLaws(slices.Repeat([][]int{{5, 5, 5, 5, 5}}, mostLaws)))
}

func TestPromise7ProphetMeans(t *testing.T) {
	for _, laws := range someOffers() {
		got, ok := impl.ProphetMean(laws)
		checkFraction(t, fmt.Sprint("ProphetMean of ", laws), got, ok, meanOver(laws, greatestOf))
	}
	for _, x := range []struct {
		laws [][]int
		want [2]int
	}{
		{nil, [2]int{0, 1}}, {[][]int{}, [2]int{0, 1}}, {[][]int{{3}}, [2]int{0, 1}}, {[][]int{{1}, {2}, {3}, {5}}, [2]int{0, 1}},
		{[][]int{{1, 1}, {1, 0, 1}}, [2]int{5, 4}}, {[][]int{{0, 0, 0, 0, 1}, {1}}, [2]int{4, 1}}, {[][]int{{1, 1}, {1, 1}, {1, 1}, {1, 1}}, [2]int{15, 16}},
	} {
		if got, ok := impl.ProphetMean(x.laws); !ok || got != x.want {
			t.Errorf("ProphetMean(%v) = %v, %v", x.laws, got, ok)
		}
	}
}

func TestPromise7GamblerTables(t *testing.T) {
	for _, laws := range someOffers() {
		table, ok := impl.GamblerTable(laws)
		want := bestMeans(laws)
		if !ok || len(table) != len(laws)+1 {
			t.Fatalf("GamblerTable(%v) = %v, %v", laws, table, ok)
		}
		for gone, mean := range table {
			checkFraction(t, fmt.Sprint("GamblerTable of ", laws, " at ", gone), mean, true, want[gone])
		}
		if mean, ok := impl.GamblerMean(laws); !ok || mean != table[0] || table[len(laws)] != [2]int{0, 1} {
			t.Errorf("GamblerMean(%v) = %v, %v beside %v", laws, mean, ok, table)
		}
	}
	for _, x := range []struct {
		laws [][]int
		want [][2]int
	}{
		{nil, [][2]int{{0, 1}}}, {[][]int{}, [][2]int{{0, 1}}}, {[][]int{{4}}, [][2]int{{0, 1}, {0, 1}}},
		{[][]int{{1, 1}, {1, 0, 1}}, [][2]int{{1, 1}, {1, 1}, {0, 1}}}, {[][]int{{1, 0, 1}, {1, 1}}, [][2]int{{5, 4}, {1, 2}, {0, 1}}},
		{[][]int{{1, 1}, {1, 1}, {1, 1}, {1, 1}}, [][2]int{{15, 16}, {7, 8}, {3, 4}, {1, 2}, {0, 1}}},
		{[][]int{{0, 1}, {4, 0, 0, 0, 1}}, [][2]int{{1, 1}, {4, 5}, {0, 1}}},
	} {
		if got, ok := impl.GamblerTable(x.laws); !ok || !slices.Equal(got, x.want) {
			t.Errorf("GamblerTable(%v) = %v, %v", x.laws, got, ok)
		}
	}
}

// A rule is a set of pairs of an offer and a value that is taken.
func TestPromise7NoRuleOfAGamblerIsBetter(t *testing.T) {
	for _, laws := range smallOffers() {
		best := rat(0, 1)
		for set := range 1 << (3 * len(laws)) {
			best = maxRat(best, meanOver(laws, func(values []int) int {
				for i, value := range values {
					if set>>(3*i+value)&1 == 1 {
						return value
					}
				}
				return 0
			}))
		}
		got, ok := impl.GamblerMean(laws)
		checkFraction(t, fmt.Sprint("GamblerMean of ", laws), got, ok, best)
	}
}

func TestPromise7Thresholds(t *testing.T) {
	for _, laws := range someOffers() {
		half, isFirst := meanOver(laws, greatestOf), true
		for least := range mostValues + 1 {
			want := meanOver(laws, func(values []int) int { return firstFrom(values, least) })
			got, ok := impl.ThresholdMean(laws, least)
			checkFraction(t, fmt.Sprint("ThresholdMean of ", laws, least), got, ok, want)
			if isFirst && timesTwo(want).Cmp(half) >= 0 {
				checkCount(t, least)(impl.HalfThreshold(laws))
				isFirst = false
			}
		}
		if isFirst {
			t.Errorf("no threshold has half of the mean of a prophet with %v", laws)
		}
	}
}

func TestPromise7KnownThresholds(t *testing.T) {
	offers := [][]int{{1, 1}, {1, 0, 1}}
	for least, want := range [][2]int{{1, 2}, {1, 1}, {1, 1}, {0, 1}, {0, 1}, {0, 1}} {
		if got, ok := impl.ThresholdMean(offers, least); !ok || got != want {
			t.Errorf("ThresholdMean(%v, %d) = %v, %v", offers, least, got, ok)
		}
	}
	for _, x := range []struct {
		laws  [][]int
		least int
		want  [2]int
	}{
		{nil, 0, [2]int{0, 1}}, {nil, mostValues, [2]int{0, 1}}, {[][]int{{0, 1}}, 0, [2]int{1, 1}}, {[][]int{{0, 1}}, 2, [2]int{0, 1}},
		{[][]int{{0, 0, 0, 0, 1}}, mostValues, [2]int{0, 1}}, {[][]int{{0, 0, 0, 0, 1}}, 4, [2]int{4, 1}}, {[][]int{{1}, {0, 0, 0, 0, 1}}, 0, [2]int{0, 1}}, {[][]int{{1}, {0, 0, 0, 0, 1}}, 1, [2]int{4, 1}},
	} {
		if got, ok := impl.ThresholdMean(x.laws, x.least); !ok || got != x.want {
			t.Errorf("ThresholdMean(%v, %d) = %v, %v", x.laws, x.least, got, ok)
		}
	}
	for _, x := range []struct {
		laws [][]int
		want int
	}{
		{nil, 0}, {[][]int{{3}}, 0}, {offers, 1}, {[][]int{{0, 1}, {1, 0, 1}}, 0}, {[][]int{{1}, {0, 1}}, 1}, {[][]int{{0, 1}, {0, 0, 0, 0, 1}}, 2}, {[][]int{{1, 1}, {0, 0, 0, 1}}, 1},
		{[][]int{{0, 0, 0, 1}, {0, 0, 0, 0, 1}}, 0}, {[][]int{{0, 1}, {0, 0, 1}, {0, 0, 0, 0, 1}}, 2}, {[][]int{{0, 1}, {0, 1}, {0, 1}, {0, 0, 0, 1}}, 2},
	} {
		if got, ok := impl.HalfThreshold(x.laws); !ok || got != x.want {
			t.Errorf("HalfThreshold(%v) = %v, %v", x.laws, got, ok)
		}
	}
}

// A prophet has at most twice what a gambler has, and a gambler at least what a threshold gives.
func TestPromise7ProphetsAndGamblers(t *testing.T) {
	closest := rat(0, 1)
	for _, laws := range someOffers() {
		prophet, okProphet := impl.ProphetMean(laws)
		gambler, okGambler := impl.GamblerMean(laws)
		has := exact(gambler)
		if !okProphet || !okGambler || exact(prophet).Cmp(timesTwo(has)) > 0 || exact(prophet).Cmp(has) < 0 {
			t.Fatalf("with %v, a prophet has %v, %v, a gambler %v, %v", laws, prophet, okProphet, gambler, okGambler)
		}
		for least := range mostValues + 1 {
			if mean, ok := impl.ThresholdMean(laws, least); !ok || exact(mean).Cmp(has) > 0 {
				t.Errorf("with %v, a gambler has %v, but with the threshold %d %v, %v", laws, gambler, least, mean, ok)
			}
		}
		if has.Sign() > 0 {
			closest = maxRat(closest, new(big.Rat).Quo(exact(prophet), has))
		}
	}
	if closest.Cmp(rat(7, 5)) < 0 {
		t.Errorf("no prophet has more than %v times what a gambler has", closest)
	}
}

func checkNoOffers(t *testing.T, laws [][]int) {
	t.Helper()
	checkNoList(t)(impl.BestOfLaws(laws))
	checkNoCount(t)(impl.HalfThreshold(laws))
	if got, ok := impl.GamblerTable(laws); ok || len(got) > 0 {
		t.Errorf("GamblerTable = %v, %v", got, ok)
	}
	results := []checkedFraction{fractionAnd(impl.ProphetMean(laws)), fractionAnd(impl.GamblerMean(laws))}
	for least := range mostValues + 1 {
		results = append(results, fractionAnd(impl.ThresholdMean(laws, least)))
	}
	for i, got := range results {
		if got != (checkedFraction{}) {
			t.Errorf("mean %d of no offers is %v", i, got)
		}
	}
}

func TestPromise7NoOffers(t *testing.T) {
	for _, laws := range badOffers() {
		checkNoOffers(t, laws)
	}
	for _, laws := range [][][]int{nil, {{1}}, {{1, 1}, {1, 0, 1}}} {
		for _, least := range []int{-1, mostValues + 1, math.MaxInt, math.MinInt} {
			if got, ok := impl.ThresholdMean(laws, least); ok || got != [2]int{} {
				t.Errorf("ThresholdMean(%v, %d) = %v, %v", laws, least, got, ok)
			}
		}
	}
}
