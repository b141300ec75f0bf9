package tests

import (
	"fmt"
	"math/big"
	"slices"
	"testing"

	"loop.example/g01131/impl"
)

// eachBandit calls visit with lists of Arms and discounts: all of these for known lists, and one of
// them for each other list.
func eachBandit(visit func(arms []impl.Arm, d discount)) {
	all := allDiscounts()
	for _, arms := range knownBandits() {
		for _, d := range all {
			visit(arms, d)
		}
	}
	for i, arms := range someBandits() {
		visit(arms, all[i%len(all)])
	}
}

func TestPromise8Scales(t *testing.T) {
	eachBandit(func(arms []impl.Arm, d discount) {
		checkCount(t, d.scaleOf(arms))(impl.ScaleOf(arms, d.a, d.b))
	})
	end, wide := endAlone(mostWeight), armOf(treeOf(limitShapes()[2], mostWeight), 1)
	for _, x := range []struct {
		arms []impl.Arm
		d    discount
		want int
	}{
		{nil, discount{1, 2}, 1}, {[]impl.Arm{}, discount{3, 4}, 1}, {[]impl.Arm{end}, discount{1, 3}, 20}, {[]impl.Arm{end, end, end}, discount{1, 4}, 8000},
		{[]impl.Arm{lineOf(2, 6), lineOf(3)}, discount{1, 2}, 8}, {[]impl.Arm{lineOf(2, 6), end, lineOf(3)}, discount{2, 3}, 540}, {[]impl.Arm{wide, wide, end}, discount{1, 4}, 13107200000}, {[]impl.Arm{wide, wide}, discount{2, 4}, 655360000},
	} {
		checkCount(t, x.want)(impl.ScaleOf(x.arms, x.d.a, x.d.b))
	}
}

// greatestBy returns the first place of the greatest number that is greater than 0, or -1.
func greatestBy(numbers []*big.Rat) int {
	best := -1
	for i, number := range numbers {
		if number.Sign() > 0 && (best < 0 || number.Cmp(numbers[best]) > 0) {
			best = i
		}
	}
	return best
}

// byNumbers returns the rule that plays the first one of the Arms with the greatest number.
func byNumbers(lists [][]*big.Rat) func(at []int) int {
	return func(at []int) int {
		var numbers []*big.Rat
		for i, x := range at {
			numbers = append(numbers, lists[i][x])
		}
		return greatestBy(numbers)
	}
}

func feesOf(m impl.Arm) []*big.Rat {
	var fees []*big.Rat
	for _, fee := range m.Fees {
		fees = append(fees, rat(fee, 1))
	}
	return fees
}

func listsOf(arms []impl.Arm, list func(m impl.Arm) []*big.Rat) [][]*big.Rat {
	var lists [][]*big.Rat
	for _, m := range arms {
		lists = append(lists, list(m))
	}
	return lists
}

// inOrder returns the rule that plays one Arm as long as its number is greater than 0, and then
// never again.
func inOrder(lists [][]*big.Rat) func(at []int) int {
	return func(at []int) int {
		for i, x := range at {
			if lists[i][x].Sign() > 0 {
				return i
			}
		}
		return -1
	}
}

func TestPromise8ValuesOfRules(t *testing.T) {
	eachBandit(func(arms []impl.Arm, d discount) {
		what := fmt.Sprint(arms, d)
		indices, fees := listsOf(arms, d.indicesOf), listsOf(arms, feesOf)
		for _, x := range []struct {
			name string
			rule func(at []int) int
			call func(arms []impl.Arm, a int, b int) (int, bool)
		}{
			{"IndexValue", byNumbers(indices), impl.IndexValue}, {"FeeValue", byNumbers(fees), impl.FeeValue}, {"InOrderValue", inOrder(indices), impl.InOrderValue},
		} {
			want := d.valueOf(arms, x.rule)
			if got, ok := x.call(arms, d.a, d.b); !ok || got != want {
				t.Errorf("%s of %s = %d, %v; want %d", x.name, what, got, ok, want)
			}
		}
	})
}

// No way to play Arms has a greater value than to play them by their indices.
func TestPromise8IndicesAreBest(t *testing.T) {
	kinds := map[string]int{}
	check := func(arms []impl.Arm, d discount) {
		best, ok := impl.BestValue(arms, d.a, d.b)
		byIndex, okIndex := impl.IndexValue(arms, d.a, d.b)
		if want := d.bestBehind(arms, make([]int, len(arms)), 0); !ok || !okIndex || best != want || byIndex != want {
			t.Errorf("BestValue and IndexValue of %v, %v = %d, %v and %d, %v; want %d", arms, d, best, ok, byIndex, okIndex, want)
		}
		byFee, okFee := impl.FeeValue(arms, d.a, d.b)
		ordered, okOrder := impl.InOrderValue(arms, d.a, d.b)
		if !okFee || !okOrder || byFee > best || ordered > best {
			t.Errorf("FeeValue and InOrderValue of %v, %v = %d, %v and %d, %v", arms, d, byFee, okFee, ordered, okOrder)
		}
		kinds[fmt.Sprint(byFee < best, ordered < best)]++
	}
	eachBandit(check)
	if len(kinds) != 4 {
		t.Errorf("not all kinds of Arms: %v", kinds)
	}
}

// valuesFrom returns the parts of the values of all rules that are had behind k plays.
func (d discount) valuesFrom(arms []impl.Arm, at []int, k int) []int {
	values := []int{0}
	for place, m := range arms {
		if m.Tree.Weights[at[place]] > 0 {
			continue
		}
		sums := []int{d.paidAt(arms, at, place, k)}
		moved(arms, at, place, func(next []int) {
			var longer []int
			for _, more := range d.valuesFrom(arms, next, k+1) {
				for _, sum := range sums {
					longer = append(longer, sum+more)
				}
			}
			sums = longer
		})
		values = append(values, sums...)
	}
	slices.Sort(values)
	return slices.Compact(values)
}

// All rules are tried for few Arms with few nodes.
func TestPromise8NoRuleToPlayIsBetter(t *testing.T) {
	coin := armOf(treeOf([]int{-1, 0, 0, 1, 1}, 2, 1), -1, 7)
	lists := [][]impl.Arm{nil, {coin}, {coin, lineOf(2)}, {lineOf(1, 3), coin}, {lineOf(1, 3, 2), lineOf(2, 2, 2), lineOf(0, 5)}, {lineOf(2), lineOf(-1, 6), lineOf(1)}}
	small := smallArms(3)
	for i, m := range small {
		lists = append(lists, []impl.Arm{m, small[i*11%len(small)]}, []impl.Arm{m, lineOf(i%5 - 2), small[i*13%len(small)]})
	}
	for i, arms := range lists {
		d := allDiscounts()[i%6]
		values := d.valuesFrom(arms, make([]int, len(arms)), 0)
		checkCount(t, slices.Max(values))(impl.BestValue(arms, d.a, d.b))
		for _, call := range []func(arms []impl.Arm, a int, b int) (int, bool){impl.IndexValue, impl.FeeValue, impl.InOrderValue} {
			if got, ok := call(arms, d.a, d.b); !ok || !slices.Contains(values, got) {
				t.Errorf("a value of %v, %v: %d, %v", arms, d, got, ok)
			}
		}
	}
}

// What is had is as much as if each play paid the charge of its node, and the greatest charges on
// the ways came first.
func TestPromise8ChargesArePaid(t *testing.T) {
	eachBandit(func(arms []impl.Arm, d discount) {
		var charges [][][2]int
		for _, m := range arms {
			list, _ := impl.ChargesOf(m, d.a, d.b)
			charges = append(charges, list)
		}
		value, plays := rat(0, 1), playsOf(arms)
		runs(arms, func(ways [][]int, weight int) {
			var paid []*big.Rat
			for i, way := range ways {
				for _, x := range way {
					paid = append(paid, maxRat(rat(0, 1), exact(charges[i][x])))
				}
			}
			slices.SortFunc(paid, func(x *big.Rat, y *big.Rat) int { return y.Cmp(x) })
			// The ends, one on each way, are not played, and none of the charges is less than theirs.
			for k, charge := range paid[:len(paid)-len(arms)] {
				value.Add(value, charge.Mul(charge, rat(d.counts(weight, k, plays), 1)))
			}
		})
		if got, ok := impl.BestValue(arms, d.a, d.b); !ok || rat(got, 1).Cmp(value) != 0 {
			t.Errorf("BestValue of %v, %v = %d, %v; want %v", arms, d, got, ok, value)
		}
	})
}

func TestPromise8FirstPlays(t *testing.T) {
	places := map[int]int{}
	eachBandit(func(arms []impl.Arm, d discount) {
		at, want := make([]int, len(arms)), -1
		best := d.bestBehind(arms, at, 0)
		for place := len(arms) - 1; place >= 0 && best > 0; place-- {
			if value, ok := d.bestBy(arms, at, place, 0); ok && value == best {
				want = place
			}
		}
		places[want]++
		checkCount(t, want)(impl.FirstPlay(arms, d.a, d.b))
	})
	if len(places) != mostArms+1 {
		t.Errorf("not all places: %v", places)
	}
}

func TestPromise8KnownValues(t *testing.T) {
	end := endAlone(1)
	for _, x := range []struct {
		arms                      []impl.Arm
		d                         discount
		scale, best, first        int
		byIndex, byFee, byInOrder int
	}{
		{nil, discount{1, 2}, 1, 0, -1, 0, 0, 0}, {[]impl.Arm{end}, discount{1, 2}, 1, 0, -1, 0, 0, 0}, {[]impl.Arm{end, end, end}, discount{3, 4}, 1, 0, -1, 0, 0, 0}, {[]impl.Arm{lineOf(0)}, discount{1, 2}, 2, 0, -1, 0, 0, 0},
		{[]impl.Arm{lineOf(0), lineOf(0, 0)}, discount{1, 2}, 8, 0, -1, 0, 0, 0}, {[]impl.Arm{lineOf(-1), lineOf(-99)}, discount{1, 2}, 4, 0, -1, 0, 0, 0}, {[]impl.Arm{lineOf(-1, 2)}, discount{1, 2}, 4, 0, -1, 0, 0, 0}, {[]impl.Arm{lineOf(-1, 3)}, discount{1, 2}, 4, 2, 0, 2, 0, 2},
		{[]impl.Arm{lineOf(0, 1)}, discount{1, 2}, 4, 2, 0, 2, 0, 2}, {[]impl.Arm{lineOf(3)}, discount{1, 2}, 2, 6, 0, 6, 6, 6}, {[]impl.Arm{end, lineOf(3)}, discount{1, 2}, 2, 6, 1, 6, 6, 6}, {[]impl.Arm{lineOf(-5), end, lineOf(3)}, discount{1, 2}, 4, 12, 2, 12, 12, 12},
		{[]impl.Arm{lineOf(2, 6), lineOf(3)}, discount{1, 2}, 8, 46, 0, 46, 44, 46}, {[]impl.Arm{lineOf(3), lineOf(2, 6)}, discount{1, 2}, 8, 46, 1, 46, 44, 44}, {[]impl.Arm{lineOf(3), lineOf(3, 6)}, discount{1, 2}, 8, 54, 1, 54, 48, 48}, {[]impl.Arm{lineOf(3, 6), lineOf(3)}, discount{1, 2}, 8, 54, 0, 54, 54, 54},
		{[]impl.Arm{lineOf(4), lineOf(4)}, discount{1, 2}, 4, 24, 0, 24, 24, 24}, {[]impl.Arm{lineOf(5, 5), lineOf(5)}, discount{2, 3}, 27, 285, 0, 285, 285, 285}, {[]impl.Arm{lineOf(1), lineOf(2), lineOf(4)}, discount{1, 2}, 8, 42, 2, 42, 42, 24},
		{[]impl.Arm{lineOf(99, 99, 99, 99), lineOf(99, 99, 99, 99)}, discount{3, 4}, 65536, 23354100, 0, 23354100, 23354100, 23354100}, {[]impl.Arm{lineOf(2, 6), lineOf(3)}, discount{2, 4}, 64, 368, 0, 368, 352, 368},
	} {
		checkCount(t, x.scale)(impl.ScaleOf(x.arms, x.d.a, x.d.b))
		checkCount(t, x.best)(impl.BestValue(x.arms, x.d.a, x.d.b))
		checkCount(t, x.first)(impl.FirstPlay(x.arms, x.d.a, x.d.b))
		checkCount(t, x.byIndex)(impl.IndexValue(x.arms, x.d.a, x.d.b))
		checkCount(t, x.byFee)(impl.FeeValue(x.arms, x.d.a, x.d.b))
		checkCount(t, x.byInOrder)(impl.InOrderValue(x.arms, x.d.a, x.d.b))
	}
}

// One more Arm never makes the greatest value, divided by the scale, less.
func TestPromise8MoreArms(t *testing.T) {
	rolls := &dice{33}
	for i := range 600 {
		arms, d, before := rolledBandit(rolls, mostArms), allDiscounts()[i%6], rat(0, 1)
		for size := range mostArms + 1 {
			best, ok := impl.BestValue(arms[:size], d.a, d.b)
			scale, okScale := impl.ScaleOf(arms[:size], d.a, d.b)
			if !ok || !okScale || rat(best, scale).Cmp(before) < 0 {
				t.Fatalf("BestValue and ScaleOf of %v, %v = %d, %v and %d, %v; it was %v", arms[:size], d, best, ok, scale, okScale, before)
			}
			before = rat(best, scale)
		}
	}
}

// One Arm alone has the value that it has with nothing to leave with.
func TestPromise8OneArm(t *testing.T) {
	for i, m := range someArms() {
		d := allDiscounts()[i%6]
		value, ok := impl.LeaveValue(m, d.a, d.b, 0)
		if !ok {
			t.Errorf("LeaveValue(%v) fails", m)
		}
		checkCount(t, value)(impl.BestValue([]impl.Arm{m}, d.a, d.b))
		checkCount(t, value)(impl.InOrderValue([]impl.Arm{m}, d.a, d.b))
	}
}

func TestPromise8NoBandits(t *testing.T) {
	for _, arms := range badBandits() {
		checkNoBandit(t, arms, discount{1, 2})
	}
	for _, d := range badDiscounts() {
		for _, arms := range [][]impl.Arm{nil, {endAlone(1)}, {lineOf(2, 6), lineOf(3)}} {
			checkNoBandit(t, arms, d)
		}
	}
}

func checkNoBandit(t *testing.T, arms []impl.Arm, d discount) {
	t.Helper()
	for _, call := range []func(arms []impl.Arm, a int, b int) (int, bool){
		impl.ScaleOf, impl.BestValue, impl.FirstPlay, impl.IndexValue, impl.FeeValue, impl.InOrderValue,
	} {
		checkNoCount(t)(call(arms, d.a, d.b))
	}
}
