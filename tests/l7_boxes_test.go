package tests

import (
	"fmt"
	"math/big"
	"slices"
	"testing"

	"loop.example/g01131/impl"
)

func TestPromise7Boxes(t *testing.T) {
	for _, law := range append(limitLaws(), lawsOf(3, 0, 1, mostValues)...) {
		for fee := -2; fee <= mostBoxFee+2; fee++ {
			if want := isIn(fee, 0, mostBoxFee); impl.IsBox(impl.Box{Weights: law, Fee: fee}) != want {
				t.Errorf("IsBox of %v and %d = %v", law, fee, !want)
			}
		}
	}
	for _, bad := range badSingleBoxes() {
		if got, ok := impl.BoxIndex(bad); ok || got != [2]int{} || impl.IsBox(bad) {
			t.Errorf("BoxIndex(%.9v) = %v, %v", bad, got, ok)
		}
	}
}

func TestPromise7BoxIndices(t *testing.T) {
	for _, law := range append(limitLaws(), lawsOf(mostValues, 0, 1, 2, mostValues)...) {
		for _, fee := range []int{0, 1, 2, 3, 4, 7, mostBoxFee} {
			b := impl.Box{Weights: law, Fee: fee}
			got, ok := impl.BoxIndex(b)
			if !ok || !impl.IsFraction(got) || !isIndex(b, exact(got)) {
				t.Errorf("BoxIndex(%v) = %v, %v", b, got, ok)
			}
		}
	}
	for _, x := range []struct {
		law  []int
		fee  int
		want [2]int
	}{
		{[]int{1, 1}, 0, [2]int{1, 1}}, {[]int{0, 1, 1}, 1, [2]int{1, 2}}, {[]int{1, 0, 1}, 1, [2]int{0, 1}}, {[]int{1, 0, 0, 0, 1}, 1, [2]int{2, 1}},
		{[]int{1}, 0, [2]int{0, 1}}, {[]int{mostValues}, 0, [2]int{0, 1}}, {[]int{1}, 1, [2]int{-1, 1}}, {[]int{1}, mostBoxFee, [2]int{-20, 1}}, {[]int{1, 1}, 1, [2]int{-1, 2}},
		{[]int{0, 0, 0, 0, 1}, 0, [2]int{4, 1}}, {[]int{0, 0, 0, 0, 1}, mostBoxFee, [2]int{-16, 1}}, {[]int{5, 0, 0, 0, 0}, 0, [2]int{0, 1}}, {[]int{5, 1, 0, 0, 0}, 0, [2]int{1, 1}},
		{[]int{5, 5, 5, 5, 5}, 1, [2]int{4, 3}}, {[]int{5, 5, 5, 5, 5}, mostBoxFee, [2]int{-18, 1}}, {[]int{5, 5, 5, 5, 4}, mostBoxFee, [2]int{-217, 12}}, {[]int{5, 4}, 1, [2]int{-5, 9}},
	} {
		if got, ok := impl.BoxIndex(impl.Box{Weights: x.law, Fee: x.fee}); !ok || got != x.want {
			t.Errorf("BoxIndex of %v and %d = %v, %v", x.law, x.fee, got, ok)
		}
	}
}

// orderOf chooses, again and again, the first Box with the greatest index of those that are left.
func orderOf(boxes []impl.Box) []int {
	indices := make([]*big.Rat, len(boxes))
	for i, box := range boxes {
		indices[i] = indexOf(box)
	}
	var order []int
	for range boxes {
		next := -1
		for i := range boxes {
			isLeft := !slices.Contains(order, i)
			if isLeft && (next < 0 || indices[i].Cmp(indices[next]) > 0) {
				next = i
			}
		}
		order = append(order, next)
	}
	return order
}

func TestPromise7BoxOrders(t *testing.T) {
	for _, boxes := range someBoxes() {
		checkList(t, orderOf(boxes))(impl.BoxOrder(boxes))
	}
	one, same, alike := impl.Box{Weights: []int{1, 1}}, impl.Box{Weights: []int{0, 3}}, impl.Box{Weights: []int{0, 0, 1}, Fee: 1}
	low, high := impl.Box{Weights: []int{1}, Fee: mostBoxFee}, impl.Box{Weights: []int{1, 0, 0, 0, 1}}
	for _, x := range []struct {
		boxes []impl.Box
		want  []int
	}{
		{nil, nil}, {[]impl.Box{low}, []int{0}}, {[]impl.Box{one, same, alike, one}, []int{0, 1, 2, 3}}, {[]impl.Box{alike, same, one}, []int{0, 1, 2}},
		{[]impl.Box{low, one, high, same}, []int{2, 1, 3, 0}}, {[]impl.Box{alike, high, one, high}, []int{1, 3, 0, 2}}, {[]impl.Box{low, low, one}, []int{2, 0, 1}},
	} {
		checkList(t, x.want)(impl.BoxOrder(x.boxes))
	}
}

// openedByIndex returns what is had at the end if Boxes that have these values are opened by their
// indices.
func openedByIndex(boxes []impl.Box, order []int, values []int) int {
	seen, fees := 0, 0
	for _, place := range order {
		if indexOf(boxes[place]).Cmp(rat(seen, 1)) <= 0 {
			break
		}
		seen = max(seen, values[place])
		fees += boxes[place].Fee
	}
	return seen - fees
}

func TestPromise7BoxesMeans(t *testing.T) {
	boxLists := someBoxes()
	for i, boxes := range boxLists {
		if len(boxes) > 2 && i%3 > 0 {
			continue
		}
		order := orderOf(boxes)
		want := meanOver(lawsIn(boxes), func(values []int) int { return openedByIndex(boxes, order, values) })
		got, ok := impl.BoxesMean(boxes)
		checkFraction(t, fmt.Sprint("BoxesMean of ", boxes), got, ok, want)
	}
}

// bestFrom returns the greatest of all means of what is had at the end, times the totals of all
// Boxes that are left, whichever of them are opened and in any order.
func bestFrom(left []impl.Box, seen int) int {
	product := 1
	for _, box := range left {
		product *= totalWeight(box)
	}
	best := seen * product
	for i, box := range left {
		rest := slices.Delete(slices.Clone(left), i, i+1)
		mean := -box.Fee * product
		for value, weight := range box.Weights {
			mean += weight * bestFrom(rest, max(seen, value))
		}
		best = max(best, mean)
	}
	return best
}

func totalWeight(b impl.Box) int {
	total := 0
	for _, weight := range b.Weights {
		total += weight
	}
	return total
}

func TestPromise7NoWayToOpenBoxesIsBetter(t *testing.T) {
	for i, boxes := range someBoxes() {
		got, ok := impl.BoxesBest(boxes)
		mean, okMean := impl.BoxesMean(boxes)
		if !ok || !okMean || got != mean {
			t.Errorf("BoxesBest(%v) = %v, %v beside %v, %v", boxes, got, ok, mean, okMean)
		}
		if len(boxes) == mostLaws && i%4 > 0 {
			continue
		}
		product := 1
		for _, box := range boxes {
			product *= totalWeight(box)
		}
		checkFraction(t, fmt.Sprint("BoxesBest of ", boxes), got, ok, rat(bestFrom(boxes, 0), product))
	}
}

func TestPromise7KnownBoxes(t *testing.T) {
	free, dear := impl.Box{Weights: []int{1, 1}}, impl.Box{Weights: []int{0, 1, 1}, Fee: 1}
	even, top := impl.Box{Weights: []int{1, 0, 1}, Fee: 1}, impl.Box{Weights: []int{0, 0, 0, 0, 1}, Fee: mostBoxFee}
	chance := impl.Box{Weights: []int{1, 0, 0, 0, 1}, Fee: 1}
	for _, x := range []struct {
		boxes []impl.Box
		want  [2]int
	}{
		{nil, [2]int{0, 1}}, {[]impl.Box{}, [2]int{0, 1}}, {[]impl.Box{free}, [2]int{1, 2}}, {[]impl.Box{dear}, [2]int{1, 2}}, {[]impl.Box{free, dear}, [2]int{3, 4}}, {[]impl.Box{dear, free}, [2]int{3, 4}},
		{[]impl.Box{even}, [2]int{0, 1}}, {[]impl.Box{even, even, even, even}, [2]int{0, 1}}, {[]impl.Box{top}, [2]int{0, 1}}, {[]impl.Box{top, top, top, top}, [2]int{0, 1}},
		{[]impl.Box{{Weights: []int{1}}}, [2]int{0, 1}}, {[]impl.Box{{Weights: []int{1}, Fee: mostBoxFee}}, [2]int{0, 1}}, {[]impl.Box{top, free}, [2]int{1, 2}},
		{[]impl.Box{chance}, [2]int{1, 1}}, {[]impl.Box{chance, chance}, [2]int{3, 2}}, {[]impl.Box{chance, chance, chance, chance}, [2]int{15, 8}},
		{[]impl.Box{{Weights: []int{0, 0, 0, 0, 1}}, chance}, [2]int{4, 1}}, {[]impl.Box{chance, {Weights: []int{0, 0, 1}}}, [2]int{2, 1}}, {[]impl.Box{free, free, free, free}, [2]int{15, 16}},
	} {
		mean, okMean := impl.BoxesMean(x.boxes)
		best, okBest := impl.BoxesBest(x.boxes)
		if !okMean || !okBest || mean != x.want || best != x.want {
			t.Errorf("Boxes %v: %v, %v and %v, %v; want %v", x.boxes, mean, okMean, best, okBest, x.want)
		}
	}
}

// One more Box never makes the mean less.
func TestPromise7MoreBoxes(t *testing.T) {
	rolls := &dice{3}
	for range 500 {
		boxes, before := rolledBoxes(rolls, mostLaws), rat(0, 1)
		for size := range mostLaws + 1 {
			mean, ok := impl.BoxesBest(boxes[:size])
			if !ok || exact(mean).Cmp(before) < 0 {
				t.Fatalf("BoxesBest(%v) = %v, %v; it was %v", boxes[:size], mean, ok, before)
			}
			before = exact(mean)
		}
	}
}

func TestPromise7NoBoxes(t *testing.T) {
	for _, boxes := range badBoxes() {
		checkNoList(t)(impl.BoxOrder(boxes))
		if got := fractionAnd(impl.BoxesMean(boxes)); got != (checkedFraction{}) {
			t.Errorf("BoxesMean(%.99s) = %v", fmt.Sprint(boxes), got)
		}
		if got := fractionAnd(impl.BoxesBest(boxes)); got != (checkedFraction{}) {
			t.Errorf("BoxesBest(%.99s) = %v", fmt.Sprint(boxes), got)
		}
	}
}
