package tests

import (
	"fmt"
	"math"
	"math/big"
	"slices"
	"testing"

	"loop.example/g01131/impl"
)

func TestPromise8Limits(t *testing.T) {
	if impl.MaxArm != mostArm || impl.MaxHeight != mostHeight || impl.MaxArmFee != mostArmFee {
		t.Error("the limits of Arms are others")
	}
	if impl.MaxArms != mostArms || impl.MaxPlays != mostPlays || impl.MaxShares != mostShares {
		t.Error("the limits of playing Arms are others")
	}
}

func TestPromise8Arms(t *testing.T) {
	for _, m := range someArms() {
		if !impl.IsArm(m) {
			t.Errorf("IsArm(%v) is false", m)
		}
	}
	for _, bad := range badArms() {
		if impl.IsArm(bad) {
			t.Errorf("IsArm(%.99s) is true", fmt.Sprint(bad))
		}
	}
}

// Each node of each small Arm has a fee at the limits and just beyond them.
func TestPromise8FeesOfNodes(t *testing.T) {
	for _, m := range smallArms(4) {
		for x := range m.Fees {
			for _, fee := range []int{0, 1, -1, mostArmFee, -mostArmFee, mostArmFee + 1, -mostArmFee - 1, math.MaxInt, math.MinInt} {
				fees := slices.Clone(m.Fees)
				fees[x] = fee
				isEnd := len(childrenOf(m.Tree, x)) == 0
				want := fee == 0 || !isEnd && isIn(fee, -mostArmFee, mostArmFee)
				if got := impl.IsArm(impl.Arm{Tree: m.Tree, Fees: fees}); got != want {
					t.Errorf("IsArm of %v and %v = %v", m.Tree, fees, got)
				}
			}
		}
	}
}

func TestPromise8LineArms(t *testing.T) {
	for size := range mostHeight + 2 {
		tuples([]int{0, 5, mostArmFee, -mostArmFee, mostArmFee + 1, -mostArmFee - 1}, size, func(fees []int) {
			m, ok := impl.LineArm(fees)
			if size > mostHeight || !areFrom(fees, -mostArmFee, mostArmFee) {
				if ok || !isNothing(m) {
					t.Errorf("LineArm(%v) = %v, %v", fees, m, ok)
				}
				return
			}
			want := lineOf(fees...)
			if !ok || textOf(m.Tree) != textOf(want.Tree) || !slices.Equal(m.Fees, append(slices.Clone(fees), 0)) || !impl.IsArm(m) {
				t.Errorf("LineArm(%v) = %v, %v", fees, m, ok)
			}
		})
	}
	m, ok := impl.LineArm([]int{7, -8})
	if !ok || !slices.Equal(m.Tree.Parents, []int{-1, 0, 1}) || !slices.Equal(m.Tree.Weights, []int{0, 0, 1}) || !slices.Equal(m.Fees, []int{7, -8, 0}) {
		t.Errorf("LineArm of 7 and -8 = %v, %v", m, ok)
	}
	for _, fees := range [][]int{{math.MaxInt}, {math.MinInt}, {0, 0, 0, 0, 0}, {0, 0, 0, math.MinInt}, make([]int, 1<<20)} {
		if m, ok := impl.LineArm(fees); ok || !isNothing(m) {
			t.Errorf("LineArm(%.9v) = %v, %v", fees, m, ok)
		}
	}
}

// checkNumbers checks that a call returned these numbers, all of them as fractions.
func checkNumbers(t *testing.T, what string, got [][2]int, ok bool, want []*big.Rat) {
	t.Helper()
	if !ok || len(got) != len(want) {
		t.Fatalf("%s = %v, %v", what, got, ok)
	}
	for x := range want {
		if !isFraction(got[x], want[x]) {
			t.Errorf("%s = %v; want %v", what, got, want)
			return
		}
	}
}

func TestPromise8IndicesAndCharges(t *testing.T) {
	for _, m := range append(someArms(), smallArms(5)...) {
		for _, d := range allDiscounts() {
			want := d.indicesOf(m)
			indices, ok := impl.IndexOf(m, d.a, d.b)
			checkNumbers(t, fmt.Sprint("IndexOf ", m, d), indices, ok, want)
			charges, ok := impl.ChargesOf(m, d.a, d.b)
			checkNumbers(t, fmt.Sprint("ChargesOf ", m, d), charges, ok, chargesOf(m, want))
		}
	}
}

func TestPromise8KnownIndices(t *testing.T) {
	fork := armOf(impl.Tree{Parents: []int{-1, 0, 0, 1}, Weights: []int{0, 0, 1, 1}}, 0, 10)
	both := armOf(impl.Tree{Parents: []int{-1, 0, 0, 1, 2}, Weights: []int{0, 0, 0, 1, 1}}, 0, 1, 90)
	for _, x := range []struct {
		m       impl.Arm
		d       discount
		indices [][2]int
		charges [][2]int
	}{
		{endAlone(1), discount{1, 2}, [][2]int{{0, 1}}, [][2]int{{0, 1}}}, {endAlone(mostWeight), discount{3, 4}, [][2]int{{0, 1}}, [][2]int{{0, 1}}},
		{lineOf(0), discount{1, 2}, [][2]int{{0, 1}, {0, 1}}, [][2]int{{0, 1}, {0, 1}}}, {lineOf(-7), discount{1, 2}, [][2]int{{-7, 1}, {0, 1}}, [][2]int{{-7, 1}, {0, 1}}},
		{lineOf(2, 6), discount{1, 2}, [][2]int{{10, 3}, {6, 1}, {0, 1}}, [][2]int{{10, 3}, {10, 3}, {0, 1}}}, {lineOf(6, 2), discount{1, 2}, [][2]int{{6, 1}, {2, 1}, {0, 1}}, [][2]int{{6, 1}, {2, 1}, {0, 1}}},
		{lineOf(2, 6), discount{3, 4}, [][2]int{{26, 7}, {6, 1}, {0, 1}}, [][2]int{{26, 7}, {26, 7}, {0, 1}}}, {lineOf(2, 6), discount{2, 4}, [][2]int{{10, 3}, {6, 1}, {0, 1}}, [][2]int{{10, 3}, {10, 3}, {0, 1}}},
		{lineOf(-99, 99), discount{3, 4}, [][2]int{{-99, 7}, {99, 1}, {0, 1}}, [][2]int{{-99, 7}, {-99, 7}, {0, 1}}}, {lineOf(5, 5, 5), discount{1, 4}, [][2]int{{5, 1}, {5, 1}, {5, 1}, {0, 1}}, [][2]int{{5, 1}, {5, 1}, {5, 1}, {0, 1}}},
		{fork, discount{1, 2}, [][2]int{{2, 1}, {10, 1}, {0, 1}, {0, 1}}, [][2]int{{2, 1}, {2, 1}, {0, 1}, {0, 1}}},
		{both, discount{1, 2}, [][2]int{{18, 1}, {1, 1}, {90, 1}, {0, 1}, {0, 1}}, [][2]int{{18, 1}, {1, 1}, {18, 1}, {0, 1}, {0, 1}}},
		{lineOf(-99, -99, -99, 99), discount{1, 4}, [][2]int{{-8217, 85}, {-627, 7}, {-297, 5}, {99, 1}, {0, 1}}, [][2]int{{-8217, 85}, {-8217, 85}, {-8217, 85}, {-8217, 85}, {0, 1}}},
	} {
		if indices, ok := impl.IndexOf(x.m, x.d.a, x.d.b); !ok || !slices.Equal(indices, x.indices) {
			t.Errorf("IndexOf(%v) with %v = %v, %v", x.m, x.d, indices, ok)
		}
		if charges, ok := impl.ChargesOf(x.m, x.d.a, x.d.b); !ok || !slices.Equal(charges, x.charges) {
			t.Errorf("ChargesOf(%v) with %v = %v, %v", x.m, x.d, charges, ok)
		}
	}
}

// An index of a node with children is at least its fee, and charges do not rise on a way.
func TestPromise8IndicesAreAtLeastFees(t *testing.T) {
	for _, m := range append(someArms(), rolledArms(&dice{9}, 2000)...) {
		for _, d := range allDiscounts() {
			indices, ok := impl.IndexOf(m, d.a, d.b)
			charges, okCharges := impl.ChargesOf(m, d.a, d.b)
			if !ok || !okCharges || len(indices) != len(m.Fees) || len(charges) != len(m.Fees) {
				t.Fatalf("IndexOf or ChargesOf(%v) with %v: %v, %v", m, d, indices, charges)
			}
			for x, parent := range m.Tree.Parents {
				if m.Tree.Weights[x] > 0 {
					continue
				}
				if exact(indices[x]).Cmp(rat(m.Fees[x], 1)) < 0 {
					t.Errorf("IndexOf(%v) with %v = %v", m, d, indices)
				}
				if x > 0 && exact(charges[x]).Cmp(exact(charges[parent])) > 0 {
					t.Errorf("ChargesOf(%v) with %v = %v", m, d, charges)
				}
			}
		}
	}
}

// isSetOf reports whether a list has the root and, with each other node, its parent, and no ends, and
// is strictly ascending.
func isSetOf(t impl.Tree, list []int) bool {
	for i, x := range list {
		if !isIn(x, 0, len(t.Parents)-1) || t.Weights[x] > 0 || i > 0 && (list[i-1] >= x || !slices.Contains(list[:i], t.Parents[x])) {
			return false
		}
	}
	return len(list) > 0 && list[0] == 0
}

func checkPlayGain(t *testing.T, m impl.Arm, d discount, set []int) {
	t.Helper()
	gain, time, ok := impl.PlayGain(m, d.a, d.b, set)
	if !isSetOf(m.Tree, set) {
		if ok || gain != [2]int{} || time != [2]int{} {
			t.Errorf("PlayGain of %v, %v, %.9v = %v, %v, %v", m, d, set, gain, time, ok)
		}
		return
	}
	wantGain, wantTime := d.playedIn(m, 0, set, 0)
	checkFraction(t, fmt.Sprint("the gain of ", m, d, set), gain, ok, wantGain)
	checkFraction(t, fmt.Sprint("the time of ", m, d, set), time, ok, wantTime)
}

func TestPromise8PlayGains(t *testing.T) {
	for i, m := range someArms() {
		d := allDiscounts()[i%6]
		for _, set := range setsFrom(m.Tree, 0) {
			slices.Sort(set)
			if !isSetOf(m.Tree, set) {
				t.Fatalf("%v is no set of %v", set, m)
			}
			checkPlayGain(t, m, d, set)
		}
		if len(m.Fees) < mostArm || i%6 == 0 {
			for _, list := range nodeLists(len(m.Fees)) {
				checkPlayGain(t, m, d, list)
			}
		}
	}
}

func TestPromise8KnownPlayGains(t *testing.T) {
	m := armOf(impl.Tree{Parents: []int{-1, 0, 0, 1, 2, 2}, Weights: []int{0, 0, 0, 1, 2, 1}}, 3, -4, 8)
	for _, x := range []struct {
		set        []int
		gain, time [2]int
	}{
		{[]int{0}, [2]int{3, 1}, [2]int{1, 1}}, {[]int{0, 1}, [2]int{5, 2}, [2]int{9, 8}}, {[]int{0, 2}, [2]int{6, 1}, [2]int{11, 8}}, {[]int{0, 1, 2}, [2]int{11, 2}, [2]int{3, 2}},
	} {
		gain, time, ok := impl.PlayGain(m, 1, 2, x.set)
		if !ok || gain != x.gain || time != x.time {
			t.Errorf("PlayGain of %v = %v, %v, %v", x.set, gain, time, ok)
		}
	}
	for _, set := range [][]int{
		nil, {}, {1}, {1, 2}, {0, 3}, {0, 1, 3}, {0, 4}, {3}, {2, 0}, {0, 0}, {0, 2, 1}, {0, 1, 1}, {1, 0}, {-1}, {-1, 0}, {0, 6}, {6}, {0, math.MaxInt}, {math.MinInt, 0}, {0, 1, 2, 3, 4, 5}, make([]int, 1<<20),
	} {
		if gain, time, ok := impl.PlayGain(m, 1, 2, set); ok || gain != [2]int{} || time != [2]int{} {
			t.Errorf("PlayGain of %.9v = %v, %v, %v", set, gain, time, ok)
		}
	}
	deep := lineOf(1, 2, 3, 4)
	for _, set := range [][]int{{0, 2}, {0, 1, 3}, {1, 2, 3}, {0, 1, 2, 3, 4}, {0, 1, 2, 4}} {
		if gain, time, ok := impl.PlayGain(deep, 1, 2, set); ok || gain != [2]int{} || time != [2]int{} {
			t.Errorf("PlayGain of a line and %v = %v, %v, %v", set, gain, time, ok)
		}
	}
}

// bestLeft returns the greatest value of all ways to end an Arm, if a number is paid then.
func (d discount) bestLeft(m impl.Arm, leave int) int {
	best, height := math.MinInt, heightOf(m)
	for _, stop := range allStops(m.Tree, 0) {
		value := 0
		for _, end := range leaves(m.Tree) {
			weight := m.Tree.Weights[end]
			for k, x := range wayTo(m.Tree, end) {
				if slices.Contains(stop, x) {
					value += d.counts(weight*leave, k, height)
					break
				}
				value += d.counts(weight*m.Fees[x], k, height)
			}
		}
		best = max(best, value)
	}
	return best
}

func TestPromise8LeaveValues(t *testing.T) {
	for i, m := range someArms() {
		d := allDiscounts()[i%6]
		for _, leave := range []int{0, 1, -1, 4, -7, 30, -40, mostArmFee, -mostArmFee} {
			want := d.bestLeft(m, leave)
			got, ok := impl.LeaveValue(m, d.a, d.b, leave)
			if !ok || got != want {
				t.Errorf("LeaveValue of %v, %v, %d = %d, %v; want %d", m, d, leave, got, ok, want)
			}
			scale := d.scaleOf([]impl.Arm{m})
			isPlayed := len(m.Fees) > 1 && d.indexFrom(m, 0).Cmp(rat(leave*(d.b-d.a), d.b)) > 0
			if got > leave*scale != isPlayed {
				t.Errorf("LeaveValue of %v, %v, %d = %d, and the scale is %d", m, d, leave, got, scale)
			}
		}
		for _, leave := range []int{mostArmFee + 1, -mostArmFee - 1, math.MaxInt, math.MinInt} {
			checkNoCount(t)(impl.LeaveValue(m, d.a, d.b, leave))
		}
	}
	checkCount(t, 40)(impl.LeaveValue(lineOf(2, 6), 1, 2, 10))
	checkCount(t, 24)(impl.LeaveValue(lineOf(2, 6), 1, 2, 4))
	checkCount(t, -6)(impl.LeaveValue(lineOf(-1), 1, 2, -4))
	checkCount(t, 0)(impl.LeaveValue(lineOf(-1), 1, 2, 0))
	checkCount(t, -1980)(impl.LeaveValue(endAlone(mostWeight), 1, 4, -mostArmFee))
	checkCount(t, 99)(impl.LeaveValue(endAlone(1), 3, 4, mostArmFee))
}

func TestPromise8FairFees(t *testing.T) {
	for i, m := range someArms() {
		d := allDiscounts()[i%6]
		index := d.indexFrom(m, 0)
		floor := int(new(big.Int).Div(index.Num(), index.Denom()).Int64())
		for _, fee := range []int{0, 1, -1, floor - 1, floor, floor + 1, mostArmFee, -mostArmFee, mostArmFee + 1, -mostArmFee - 1, math.MaxInt, math.MinInt} {
			got, ok := impl.FairFee(m, d.a, d.b, fee)
			if len(m.Fees) == 1 || !isIn(fee, -mostArmFee, mostArmFee) {
				if got || ok {
					t.Errorf("FairFee of %v, %v, %d = %v, %v", m, d, fee, got, ok)
				}
				continue
			}
			isFair := slices.ContainsFunc(setsFrom(m.Tree, 0), func(set []int) bool {
				gain, _ := d.playedIn(m, 0, set, fee)
				return gain.Sign() >= 0
			})
			if !ok || got != isFair || got != (rat(fee, 1).Cmp(index) <= 0) {
				t.Errorf("FairFee of %v, %v, %d = %v, %v", m, d, fee, got, ok)
			}
		}
	}
}

func TestPromise8NoArm(t *testing.T) {
	for _, bad := range badArms() {
		checkNoArm(t, bad, discount{1, 2})
	}
	for _, m := range []impl.Arm{endAlone(1), lineOf(0), lineOf(1, 2), armOf(treeOf(limitShapes()[4], 3), 5, -5)} {
		for _, d := range badDiscounts() {
			checkNoArm(t, m, d)
		}
	}
}

func checkNoArm(t *testing.T, m impl.Arm, d discount) {
	t.Helper()
	for _, call := range []func(m impl.Arm, a int, b int) ([][2]int, bool){impl.IndexOf, impl.ChargesOf} {
		if got, ok := call(m, d.a, d.b); ok || len(got) > 0 {
			t.Errorf("indices or charges of %.99s, %v: %v, %v", fmt.Sprint(m), d, got, ok)
		}
	}
	if gain, time, ok := impl.PlayGain(m, d.a, d.b, []int{0}); ok || gain != [2]int{} || time != [2]int{} {
		t.Errorf("PlayGain of %.99s, %v = %v, %v, %v", fmt.Sprint(m), d, gain, time, ok)
	}
	checkNoCount(t)(impl.LeaveValue(m, d.a, d.b, 1))
	if fair, ok := impl.FairFee(m, d.a, d.b, -mostArmFee); fair || ok {
		t.Errorf("FairFee of %.99s, %v = %v, %v", fmt.Sprint(m), d, fair, ok)
	}
}
