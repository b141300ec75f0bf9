package tests

import (
	"fmt"
	"math"
	"slices"
	"testing"

	"loop.example/g01131/impl"
)

// armCall calls one function of an Arm with arguments of its choice, and returns its results but
// for the last one, and this; isValid tells whether the call of a valid Arm and discount succeeds.
type armCall struct {
	name    string
	call    func(m impl.Arm, d discount, list []int, n int) (any, bool)
	isValid func(m impl.Arm, list []int, n int) bool
}

// armCalls returns a call of each function of chapter 8 that has an Arm as its argument.
func armCalls() []armCall {
	type arm = impl.Arm
	anyway := func(m arm, list []int, n int) bool { return true }
	isFee := func(n int) bool { return isIn(n, -mostArmFee, mostArmFee) }
	return []armCall{
		{"IndexOf", func(m arm, d discount, list []int, n int) (any, bool) { return anyOf(impl.IndexOf(m, d.a, d.b)) }, anyway},
		{"ChargesOf", func(m arm, d discount, list []int, n int) (any, bool) { return anyOf(impl.ChargesOf(m, d.a, d.b)) }, anyway},
		{"PlayGain", func(m arm, d discount, list []int, n int) (any, bool) {
			gain, time, ok := impl.PlayGain(m, d.a, d.b, list)
			return [2][2]int{gain, time}, ok
		}, func(m arm, list []int, n int) bool { return isSetOf(m.Tree, list) }},
		{"LeaveValue", func(m arm, d discount, list []int, n int) (any, bool) { return anyOf(impl.LeaveValue(m, d.a, d.b, n)) }, func(m arm, list []int, n int) bool { return isFee(n) }},
		{"FairFee", func(m arm, d discount, list []int, n int) (any, bool) { return anyOf(impl.FairFee(m, d.a, d.b, n)) }, func(m arm, list []int, n int) bool {
			return isFee(n) && m.Tree.Weights[0] == 0
		}},
	}
}

// banditCall calls one function of lists of Arms, and returns its results but for the last one,
// and this.
type banditCall struct {
	name string
	call func(arms []impl.Arm, a int, b int) (int, bool)
}

// banditCalls returns each function of chapter 8 that has a list of Arms as its argument.
func banditCalls() []banditCall {
	return []banditCall{
		{"ScaleOf", impl.ScaleOf}, {"BestValue", impl.BestValue}, {"FirstPlay", impl.FirstPlay}, {"IndexValue", impl.IndexValue}, {"FeeValue", impl.FeeValue}, {"InOrderValue", impl.InOrderValue},
	}
}

// isDiscount reports whether a discount is valid.
func isDiscount(d discount) bool { return slices.Contains(allDiscounts(), d) }

// oddDiscounts returns all pairs of numbers at the limits of discounts, just beyond them, and at the
// limits of int.
func oddDiscounts() []discount {
	discounts := badDiscounts()
	tuples([]int{-1, 0, 1, 2, 3, mostShares, mostShares + 1, math.MaxInt, math.MinInt}, 2, func(n []int) {
		discounts = append(discounts, discount{n[0], n[1]})
	})
	return discounts
}

// oddFees returns numbers at the limits of fees and just beyond them, and those at the limits of int.
func oddFees() []int {
	return []int{0, 1, -1, mostArmFee, -mostArmFee, mostArmFee + 1, -mostArmFee - 1, math.MaxInt, math.MaxInt - 1, math.MinInt, math.MinInt + 1}
}

// A panic in a call fails the test, as does a call that does not return.
func TestPromise13ArmsOfAllKinds(t *testing.T) {
	bad := badArms()
	arms := append(slices.Clone(bad), endAlone(1), endAlone(mostWeight), lineOf(0), lineOf(mostArmFee, -mostArmFee, mostArmFee, mostArmFee), armOf(treeOf(limitShapes()[3], mostWeight), 8, -3, 60))
	lists := append(oddLists(), []int{0, 1, 2}, []int{0, 1, 2, 3}, []int{0, 1, 3})
	for _, call := range armCalls() {
		for i, m := range arms {
			for _, d := range oddDiscounts() {
				for k, list := range lists {
					n := oddFees()[k%len(oddFees())]
					result, ok := call.call(m, d, list, n)
					want := i >= len(bad) && isDiscount(d) && call.isValid(m, list, n)
					if ok != want || !ok && !isNothing(result) || ok && !isInBounds(result) {
						t.Fatalf("%s of %.99s, %v, %.9v, %d = %v, %v", call.name, fmt.Sprint(m), d, list, n, result, ok)
					}
				}
			}
		}
	}
}

func TestPromise13BanditsOfAllKinds(t *testing.T) {
	bad := badBandits()
	for _, call := range banditCalls() {
		for i, arms := range append(slices.Clone(bad), knownBandits()...) {
			for _, d := range oddDiscounts() {
				result, ok := call.call(arms, d.a, d.b)
				if ok != (i >= len(bad) && isDiscount(d)) || !ok && result != 0 {
					t.Fatalf("%s of %.99s, %v = %v, %v", call.name, fmt.Sprint(arms), d, result, ok)
				}
			}
		}
	}
}

func TestPromise13LinesOfAllKinds(t *testing.T) {
	for _, list := range append(oddLists(), []int{1, 2, 3, 4}, []int{1, 2, 3, 4, 5}, slices.Repeat([]int{-99}, mostHeight), slices.Repeat([]int{-99}, mostHeight+1)) {
		m, ok := impl.LineArm(list)
		want := len(list) <= mostHeight && areFrom(list, -mostArmFee, mostArmFee)
		if ok != want || impl.IsArm(m) != want || !ok && !isNothing(m) {
			t.Errorf("LineArm(%.9v) = %v, %v", list, m, ok)
		}
	}
}

// roomyArm returns an Arm whose lists have room behind their ends, and that room.
func roomyArm(m impl.Arm) (impl.Arm, [][]int) {
	lists, wholes := roomyLists([][]int{m.Tree.Parents, m.Tree.Weights, m.Fees})
	return impl.Arm{Tree: impl.Tree{Parents: lists[0], Weights: lists[1]}, Fees: lists[2]}, wholes
}

func TestPromise13ArmsStayAsTheyAre(t *testing.T) {
	arms := append(smallArms(3), endAlone(1), armOf(treeOf(limitShapes()[3], 5), 8, -3, 60), lineOf(1, 2, 3, 4, 5), impl.Arm{}, impl.Arm{Tree: endAlone(1).Tree, Fees: []int{1}})
	for _, call := range armCalls() {
		for i, m := range arms {
			for _, list := range [][]int{nil, {0}, {0, 1}, {1}, {0, 1, 2, 3}, {2, 1}} {
				for _, n := range []int{-mostArmFee, 0, 5, mostArmFee + 1} {
					given, wholes := roomyArm(m)
					set, whole := roomy(list)
					wholes = append(wholes, whole)
					kept := cloneTable(wholes)
					d := append(allDiscounts(), discount{2, 2}, discount{1, 5})[i%8]
					what := fmt.Sprint(call.name, " of ", m, d, list, n)
					checkSame(t, what, func() (any, bool) { return call.call(given, d, set, n) })
					if impl.IsArm(given) != impl.IsArm(m) || !sameTables(wholes, kept) {
						t.Fatalf("%s changes an argument or shares its memory", what)
					}
				}
			}
		}
	}
}

func TestPromise13BanditsStayAsTheyAre(t *testing.T) {
	lists := append(knownBandits(), badBandits()[:8]...)
	lists = append(lists, []impl.Arm{{}}, []impl.Arm{lineOf(1), {Tree: endAlone(1).Tree, Fees: []int{1}}})
	for _, call := range banditCalls() {
		for i, arms := range lists {
			var given []impl.Arm
			var wholes [][]int
			for _, m := range arms {
				m, lists := roomyArm(m)
				given, wholes = append(given, m), append(wholes, lists...)
			}
			// There is room behind the last Arm, too.
			given = append(given, lineOf(-77))
			names, kept := fmt.Sprint(given), cloneTable(wholes)
			d := append(allDiscounts(), discount{2, 2}, discount{1, 5})[i%8]
			checkSame(t, fmt.Sprint(call.name, " of ", names), func() (any, bool) {
				return anyOf(call.call(given[:len(arms)], d.a, d.b))
			})
			if fmt.Sprint(given) != names || !sameTables(wholes, kept) {
				t.Fatalf("%s of %s changes an Arm", call.name, names)
			}
		}
	}
}

// Each list of a line is written to, the room behind its end included, and the others stay.
func TestPromise13LinesAreTheirOwn(t *testing.T) {
	for _, list := range [][]int{nil, {4}, {3, -9}, {1, 2, 3, 4}, {1, 2, 3, 4, 5}, {100}} {
		given, whole := roomy(list)
		kept := slices.Clone(whole)
		checkSame(t, "LineArm", func() (any, bool) { return anyOf(impl.LineArm(given)) })
		if !slices.Equal(whole, kept) {
			t.Errorf("LineArm(%v) changes its argument or shares its memory", list)
		}
		m, _ := impl.LineArm(given)
		lists := [][]int{m.Tree.Parents, m.Tree.Weights, m.Fees}
		for i, own := range lists {
			others := cloneTable(lists)
			fill(own)
			others[i] = own
			if !sameTables(lists, others) {
				t.Errorf("lists of LineArm(%v) share memory", list)
			}
		}
	}
}
