package tests

import (
	"fmt"
	"math"
	"math/big"
	"slices"
	"testing"

	"loop.example/g01131/impl"
)

func TestPromise9Limits(t *testing.T) {
	if impl.MaxBalls != mostBalls || impl.MaxDraws != mostDraws || impl.MaxFaces != mostFaces {
		t.Error("the limits of urns or dice are others")
	}
	if impl.MaxWord != mostWord || impl.MaxThrow != mostThrow || impl.MaxCards != mostCards {
		t.Error("the limits of words or cards are others")
	}
}

func TestPromise9UrnChances(t *testing.T) {
	for _, v := range someVases() {
		for size := range mostDraws + 1 {
			if size > 5 && size < mostDraws && (v.red+v.blue+v.extra+size)%4 > 0 {
				continue
			}
			tuples([]int{0, 1}, size, func(list []int) {
				got, ok := impl.UrnChance(v.red, v.blue, v.extra, list)
				checkFraction(t, fmt.Sprint("UrnChance of ", v, list), got, ok, v.chanceOf(list))
			})
		}
	}
}

// All urns draw one colour first and then the other one, so that each number of each is tried.
func TestPromise9UrnChancesOfAllUrns(t *testing.T) {
	for _, v := range vasesOf(0, 1, 2, 5, 8, 13, 19, mostBalls) {
		for _, size := range []int{1, 4, mostDraws} {
			for reds := range size + 1 {
				list := append(slices.Repeat([]int{1}, reds), make([]int, size-reds)...)
				got, ok := impl.UrnChance(v.red, v.blue, v.extra, list)
				checkFraction(t, fmt.Sprint("UrnChance of ", v, list), got, ok, v.chanceOf(list))
			}
		}
	}
}

func TestPromise9KnownUrnChances(t *testing.T) {
	ten := func(draw int) []int { return slices.Repeat([]int{draw}, mostDraws) }
	for _, x := range []struct {
		v    vase
		list []int
		want [2]int
	}{
		{vase{1, 1, 1}, nil, [2]int{1, 1}}, {vase{0, 1, 20}, []int{}, [2]int{1, 1}}, {vase{1, 1, 1}, []int{1, 1}, [2]int{1, 3}}, {vase{1, 1, 1}, []int{1, 0}, [2]int{1, 6}}, {vase{1, 1, 1}, []int{0, 1}, [2]int{1, 6}},
		{vase{3, 0, 5}, ten(1), [2]int{1, 1}}, {vase{3, 0, 5}, []int{0}, [2]int{0, 1}}, {vase{3, 0, 5}, append(ten(1)[1:], 0), [2]int{0, 1}}, {vase{3, 0, 5}, append([]int{0}, ten(1)[1:]...), [2]int{0, 1}},
		{vase{0, 3, 5}, ten(0), [2]int{1, 1}}, {vase{0, 20, 20}, append(ten(0)[1:], 1), [2]int{0, 1}}, {vase{20, 0, 20}, append(ten(1)[1:], 0), [2]int{0, 1}}, {vase{0, 20, 20}, ten(1), [2]int{0, 1}}, {vase{20, 0, 0}, ten(1), [2]int{1, 1}},
		{vase{1, 1, 0}, ten(1), [2]int{1, 1024}}, {vase{20, 20, 0}, ten(0), [2]int{1, 1024}}, {vase{20, 20, 20}, ten(1), [2]int{1, 11}}, {vase{1, 9, 0}, ten(1)[4:], [2]int{1, 1000000}},
		{vase{1, 20, 0}, ten(0)[6:], [2]int{160000, 194481}}, {vase{2, 3, 4}, []int{1, 0, 1}, [2]int{4, 65}}, {vase{2, 3, 4}, []int{0, 1, 1}, [2]int{4, 65}}, {vase{19, 20, 20}, ten(1), [2]int{19, 219}},
	} {
		if got, ok := impl.UrnChance(x.v.red, x.v.blue, x.v.extra, x.list); !ok || got != x.want {
			t.Errorf("UrnChance of %v, %v = %v, %v; want %v", x.v, x.list, got, ok, x.want)
		}
	}
	for _, x := range []struct {
		v    vase
		list []int
	}{
		{vase{1, 9, 0}, ten(1)[3:]}, {vase{1, 20, 0}, ten(0)[5:]}, {vase{1, 20, 0}, ten(1)[5:]}, {vase{19, 19, 20}, ten(1)}, {vase{19, 20, 20}, ten(0)},
	} {
		if got, ok := impl.UrnChance(x.v.red, x.v.blue, x.v.extra, x.list); ok || got != [2]int{} {
			t.Errorf("UrnChance of %v, %v = %v, %v, which is no fraction", x.v, x.list, got, ok)
		}
	}
}

// The chance of the first draws may be no fraction even if that of all draws is one.
func TestPromise9UrnChancesBehindOnesThatAreNone(t *testing.T) {
	for _, x := range []struct {
		v    vase
		list []int
		less int
		want [2]int
	}{
		{vase{4, 20, 19}, []int{1, 0, 0, 0, 0, 0, 0, 0, 0, 0}, 1, [2]int{7772, 657045}}, {vase{1, 1, 8}, []int{1, 1, 0, 0, 0, 0, 0, 0, 0}, 1, [2]int{861, 965120}},
	} {
		all, ok := impl.UrnChance(x.v.red, x.v.blue, x.v.extra, x.list)
		first, okFirst := impl.UrnChance(x.v.red, x.v.blue, x.v.extra, x.list[:len(x.list)-x.less])
		if !ok || all != x.want || okFirst || first != [2]int{} {
			t.Errorf("UrnChance of %v, %v = %v, %v; before %v, %v", x.v, x.list, all, ok, first, okFirst)
		}
	}
}

// A list with the same numbers in another order has the same chance, or fails, too.
func TestPromise9UrnChancesInOtherOrders(t *testing.T) {
	rolls := &dice{9}
	for range 4000 {
		v := vase{rolls.below(mostBalls + 1), rolls.between(1, mostBalls), rolls.below(mostBalls + 1)}
		list := make([]int, rolls.below(mostDraws+1))
		for i := range list {
			list[i] = rolls.below(2)
		}
		other := slices.Clone(list)
		for i := range other {
			k := rolls.below(i + 1)
			other[i], other[k] = other[k], other[i]
		}
		first, ok := impl.UrnChance(v.red, v.blue, v.extra, list)
		second, okSecond := impl.UrnChance(v.red, v.blue, v.extra, other)
		if first != second || ok != okSecond || ok != areFractions([]*big.Rat{v.chanceOf(list)}) {
			t.Errorf("UrnChance of %v, %v and %v: %v, %v and %v, %v", v, list, other, first, ok, second, okSecond)
		}
	}
}

func TestPromise9UrnCounts(t *testing.T) {
	good, bad := 0, 0
	for _, v := range append(vasesOf(0, 1, 3, 8, mostBalls), someVases()...) {
		for n := range mostDraws + 1 {
			want := v.redChances(n)
			got, ok := impl.UrnCounts(v.red, v.blue, v.extra, n)
			checkFractions(t, fmt.Sprint("UrnCounts of ", v, n), got, ok, want)
			if ok {
				good++
			} else {
				bad++
			}
		}
	}
	if good == 0 || bad == 0 {
		t.Errorf("%d calls of UrnCounts succeed, and %d fail", good, bad)
	}
}

func TestPromise9KnownUrnCounts(t *testing.T) {
	for _, x := range []struct {
		v    vase
		n    int
		want [][2]int
	}{
		{vase{1, 1, 1}, 0, [][2]int{{1, 1}}}, {vase{0, 7, 3}, 0, [][2]int{{1, 1}}}, {vase{1, 1, 1}, 2, [][2]int{{1, 3}, {1, 3}, {1, 3}}}, {vase{1, 1, 0}, 2, [][2]int{{1, 4}, {1, 2}, {1, 4}}},
		{vase{2, 1, 1}, 1, [][2]int{{1, 3}, {2, 3}}}, {vase{0, 1, 1}, 3, [][2]int{{1, 1}, {0, 1}, {0, 1}, {0, 1}}}, {vase{20, 0, 20}, 3, [][2]int{{0, 1}, {0, 1}, {0, 1}, {1, 1}}}, {vase{20, 20, 20}, mostDraws, slices.Repeat([][2]int{{1, 11}}, 11)},
	} {
		if got, ok := impl.UrnCounts(x.v.red, x.v.blue, x.v.extra, x.n); !ok || !slices.Equal(got, x.want) {
			t.Errorf("UrnCounts of %v, %d = %v, %v; want %v", x.v, x.n, got, ok, x.want)
		}
	}
	// Of all lists with as many red draws, one alone has a chance that is no fraction.
	counts, ok := impl.UrnCounts(1, 1, 4, mostDraws)
	one, okOne := impl.UrnChance(1, 1, 4, []int{1, 0, 1, 0, 1, 0, 1, 0, 1, 0})
	if !ok || len(counts) != mostDraws+1 || okOne || one != [2]int{} {
		t.Errorf("UrnCounts(1, 1, 4, %d) = %v, %v; one list: %v, %v", mostDraws, counts, ok, one, okOne)
	}
	// The first ones are fractions, and the last one is none.
	if got, ok := impl.UrnCounts(1, 20, 0, 5); ok || len(got) > 0 {
		t.Errorf("UrnCounts(1, 20, 0, 5) = %v, %v", got, ok)
	}
}

// The mean share behind the draws is that at the beginning, whatever is drawn.
func TestPromise9UrnMeans(t *testing.T) {
	for _, v := range append(vasesOf(0, 1, 7, mostBalls), someVases()...) {
		for n := range mostDraws + 1 {
			mean := rat(0, 1)
			for reds, chance := range v.redChances(n) {
				mean.Add(mean, new(big.Rat).Mul(chance, v.after(reds, n-reds)))
			}
			got, ok := impl.UrnMean(v.red, v.blue, v.extra, n)
			checkFraction(t, fmt.Sprint("UrnMean of ", v, n), got, ok, mean)
			if first, ok := impl.UrnMean(v.red, v.blue, v.extra, 0); !ok || first != got {
				t.Errorf("UrnMean of %v is %v behind %d draws, and %v at the beginning", v, got, n, first)
			}
		}
	}
	for _, x := range []struct {
		v    vase
		want [2]int
	}{
		{vase{1, 1, 1}, [2]int{1, 2}}, {vase{0, 5, 2}, [2]int{0, 1}}, {vase{5, 0, 2}, [2]int{1, 1}}, {vase{20, 4, 0}, [2]int{5, 6}}, {vase{19, 20, 20}, [2]int{19, 39}},
	} {
		for n := range mostDraws + 1 {
			if got, ok := impl.UrnMean(x.v.red, x.v.blue, x.v.extra, n); !ok || got != x.want {
				t.Errorf("UrnMean of %v, %d = %v, %v", x.v, n, got, ok)
			}
		}
	}
}

func checkNoUrn(t *testing.T, v vase, list []int, n int) {
	t.Helper()
	if got, ok := impl.UrnChance(v.red, v.blue, v.extra, list); ok || got != [2]int{} {
		t.Errorf("UrnChance of %v, %.9v = %v, %v", v, list, got, ok)
	}
	if got, ok := impl.UrnCounts(v.red, v.blue, v.extra, n); ok || len(got) > 0 {
		t.Errorf("UrnCounts of %v, %d = %v, %v", v, n, got, ok)
	}
	if got, ok := impl.UrnMean(v.red, v.blue, v.extra, n); ok || got != [2]int{} {
		t.Errorf("UrnMean of %v, %d = %v, %v", v, n, got, ok)
	}
}

func TestPromise9NoUrns(t *testing.T) {
	for _, v := range badVases() {
		for n := range mostDraws + 1 {
			checkNoUrn(t, v, make([]int, n), n)
			checkNoUrn(t, v, slices.Repeat([]int{1}, n), n)
		}
	}
	for _, v := range someVases() {
		for i, list := range badDraws() {
			checkNoUrn(t, v, list, []int{-1, mostDraws + 1, math.MaxInt, math.MinInt}[i%4])
		}
	}
}
