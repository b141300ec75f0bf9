package tests

import (
	"fmt"
	"math"
	"slices"
	"testing"

	"loop.example/g01131/impl"
)

// lawCall calls one function of laws with arguments of its choice, and returns its results but
// for the last one, and this; isValid tells whether the number is valid.
type lawCall struct {
	name    string
	call    func(laws [][]int, n int) (any, bool)
	isValid func(n int) bool
}

func anyNumber(int) bool { return true }

// lawCalls returns a call of each function of chapter 7 that has offers as its argument.
func lawCalls() []lawCall {
	return []lawCall{
		{"BestOfLaws", func(laws [][]int, n int) (any, bool) { return anyOf(impl.BestOfLaws(laws)) }, anyNumber},
		{"ProphetMean", func(laws [][]int, n int) (any, bool) { return anyOf(impl.ProphetMean(laws)) }, anyNumber},
		{"GamblerTable", func(laws [][]int, n int) (any, bool) { return anyOf(impl.GamblerTable(laws)) }, anyNumber},
		{"GamblerMean", func(laws [][]int, n int) (any, bool) { return anyOf(impl.GamblerMean(laws)) }, anyNumber},
		{"ThresholdMean", func(laws [][]int, n int) (any, bool) { return anyOf(impl.ThresholdMean(laws, n)) }, func(n int) bool {
			return isIn(n, 0, mostValues)
		}},
		{"HalfThreshold", func(laws [][]int, n int) (any, bool) { return anyOf(impl.HalfThreshold(laws)) }, anyNumber},
	}
}

// personCalls returns a call of each function of chapter 7 that has numbers alone as arguments.
func personCalls() []numberCall {
	arePeople := func(n []int) bool { return isIn(n[0], 1, mostPeople) }
	isRule := func(n []int) bool { return arePeople(n) && isIn(n[1], 0, n[0]-1) }
	return []numberCall{
		{"SecretaryChance", 2, func(n []int) (any, bool) { return anyOf(impl.SecretaryChance(n[0], n[1])) }, isRule},
		{"SecretaryBest", 1, func(n []int) (any, bool) { return anyOf(impl.SecretaryBest(n[0])) }, arePeople},
		{"SecretaryTable", 1, func(n []int) (any, bool) { return anyOf(impl.SecretaryTable(n[0])) }, arePeople},
		{"CountWins", 2, func(n []int) (any, bool) { return anyOf(impl.CountWins(n[0], n[1])) }, func(n []int) bool {
			return isRule(n) && n[0] <= 7
		}},
		{"RankMean", 1, func(n []int) (any, bool) { return anyOf(impl.RankMean(n[0])) }, arePeople},
	}
}

// boxCall calls one function of Boxes, and returns its results but for the last one, and this.
type boxCall struct {
	name string
	call func(boxes []impl.Box) (any, bool)
}

// boxCalls returns a call of each function of chapter 7 that has Boxes as its argument.
func boxCalls() []boxCall {
	return []boxCall{
		{"BoxOrder", func(boxes []impl.Box) (any, bool) { return anyOf(impl.BoxOrder(boxes)) }},
		{"BoxesMean", func(boxes []impl.Box) (any, bool) { return anyOf(impl.BoxesMean(boxes)) }},
		{"BoxesBest", func(boxes []impl.Box) (any, bool) { return anyOf(impl.BoxesBest(boxes)) }},
	}
}

// isLaw reports whether a list is a law.
func isLaw(w []int) bool {
	return isIn(len(w), 1, mostValues) && areFrom(w, 0, mostValues) && slices.Max(w) > 0
}

func areLaws(laws [][]int) bool {
	return len(laws) <= mostLaws && !slices.ContainsFunc(laws, func(w []int) bool { return !isLaw(w) })
}

// isInBounds reports whether all fractions of a result are valid.
func isInBounds(result any) bool {
	switch x := result.(type) {
	case [2]int:
		return impl.IsFraction(x)
	case [2][2]int:
		return impl.IsFraction(x[0]) && impl.IsFraction(x[1])
	case [][2]int:
		return !slices.ContainsFunc(x, func(f [2]int) bool { return !impl.IsFraction(f) })
	}
	return true
}

// offerEdges returns numbers at the limits of chapter 7 and just beyond them, and those at the
// limits of int.
func offerEdges() []int {
	return []int{
		0, 1, 2, -1, mostLaws, mostValues, mostValues + 1, 7, 8, mostPeople - 1, mostPeople, mostPeople + 1, mostBoxFee, mostBoxFee + 1, math.MaxInt, math.MaxInt - 1, math.MinInt, math.MinInt + 1,
	}
}

// oddOffers returns lists of lists of all kinds, with one or some of them as laws.
func oddOffers() [][][]int {
	lists := append(badOffers(), nil, [][]int{}, oddLists())
	for _, list := range append(oddLists(), limitLaws()...) {
		lists = append(lists, [][]int{list}, [][]int{list, {1, 2}}, [][]int{{0, 1}, {5, 5, 5, 5, 5}, {1}, list}, slices.Repeat([][]int{list}, mostLaws), slices.Repeat([][]int{list}, mostLaws+1))
	}
	return lists
}

func TestPromise13LawsOfAllKinds(t *testing.T) {
	for _, list := range slices.Concat(oddLists(), badLaws(), limitLaws()) {
		mean, ok := impl.LawMean(list)
		if ok != isLaw(list) || impl.IsLaw(list) != ok || !ok && !isNothing(mean) || ok && !impl.IsFraction(mean) {
			t.Errorf("LawMean of %.9v = %v, %v", list, mean, ok)
		}
	}
	for _, call := range lawCalls() {
		for _, laws := range oddOffers() {
			for _, n := range offerEdges() {
				result, ok := call.call(laws, n)
				if ok != (areLaws(laws) && call.isValid(n)) || !ok && !isNothing(result) || ok && !isInBounds(result) {
					t.Errorf("%s of %.99s and %d = %v, %v", call.name, fmt.Sprint(laws), n, result, ok)
				}
			}
		}
	}
}

func TestPromise13PeopleOfAllNumbers(t *testing.T) {
	for _, call := range personCalls() {
		tuples(offerEdges(), call.size, func(n []int) {
			result, ok := call.call(n)
			if ok != call.isValid(n) || !ok && !isNothing(result) || ok && !isInBounds(result) {
				t.Errorf("%s of %v = %v, %v", call.name, n, result, ok)
			}
		})
	}
}

func TestPromise13BoxesOfAllKinds(t *testing.T) {
	for _, laws := range oddOffers() {
		for _, fee := range offerEdges() {
			var boxes []impl.Box
			for i, law := range laws[:min(len(laws), 9)] {
				box := impl.Box{Weights: law, Fee: []int{fee, 1}[i%2]}
				index, ok := impl.BoxIndex(box)
				if ok != (isLaw(law) && isIn(box.Fee, 0, mostBoxFee)) || impl.IsBox(box) != ok || !ok && !isNothing(index) || ok && !impl.IsFraction(index) {
					t.Errorf("BoxIndex of %.99s = %v, %v", fmt.Sprint(box), index, ok)
				}
				boxes = append(boxes, box)
			}
			for _, call := range boxCalls() {
				result, ok := call.call(boxes)
				if ok != (areLaws(laws) && (len(boxes) == 0 || isIn(fee, 0, mostBoxFee))) || !ok && !isNothing(result) || ok && !isInBounds(result) {
					t.Errorf("%s of %.99s = %v, %v", call.name, fmt.Sprint(boxes), result, ok)
				}
			}
		}
	}
}

// keptOffers returns offers of which some are valid.
func keptOffers() [][][]int {
	return append(someOffers(), [][]int{{0}}, [][]int{{1, 2}, nil}, [][]int{{1, 2}, {6}}, slices.Repeat([][]int{{1, 1}}, mostLaws+1))
}

// roomyLists returns copies of lists with room behind the end of each of them, and that room.
func roomyLists(lists [][]int) ([][]int, [][]int) {
	var given, wholes [][]int
	for _, list := range lists {
		list, whole := roomy(list)
		given, wholes = append(given, list), append(wholes, whole)
	}
	// There is room behind the last list, too.
	return append(given, []int{-77})[:len(given)], wholes
}

// checkSame makes a call twice, and writes to what it returns in between.
func checkSame(t *testing.T, what string, call func() (any, bool)) {
	t.Helper()
	first, ok := call()
	want := fmt.Sprint(first, ok)
	overwrite(first)
	if second, ok := call(); fmt.Sprint(second, ok) != want {
		t.Fatalf("%s returns %s, and then %v, %v", what, want, second, ok)
	}
}

func TestPromise13LawsStayAsTheyAre(t *testing.T) {
	for _, laws := range keptOffers() {
		for _, call := range lawCalls() {
			for _, n := range []int{-1, 0, 1, mostValues, mostValues + 1} {
				given, wholes := roomyLists(laws)
				room, kept := slices.Clone(given[:len(given)+1]), cloneTable(wholes)
				checkSame(t, fmt.Sprint(call.name, " of ", laws, n), func() (any, bool) { return call.call(given, n) })
				if !sameTables(given[:len(given)+1], room) || !sameTables(wholes, kept) {
					t.Fatalf("%s of %v, %d changes an argument or shares its memory", call.name, laws, n)
				}
			}
		}
	}
	for _, law := range append(badLaws(), limitLaws()...) {
		given, whole := roomy(law)
		kept := slices.Clone(whole)
		checkSame(t, "LawMean", func() (any, bool) { return anyOf(impl.LawMean(given)) })
		if impl.IsLaw(given) != isLaw(law) || impl.IsLaw(given) != isLaw(law) || !slices.Equal(whole, kept) {
			t.Errorf("the law %.9v does not stay as it is", law)
		}
	}
}

func TestPromise13PeopleAreTheirOwn(t *testing.T) {
	for _, call := range personCalls() {
		tuples([]int{0, 1, 2, 3, 7, mostPeople}, call.size, func(n []int) {
			checkSame(t, fmt.Sprint(call.name, " of ", n), func() (any, bool) { return call.call(n) })
		})
	}
}

func TestPromise13BoxesStayAsTheyAre(t *testing.T) {
	for i, laws := range keptOffers() {
		given, wholes := roomyLists(laws)
		kept := cloneTable(wholes)
		var boxes []impl.Box
		for k, law := range given {
			boxes = append(boxes, impl.Box{Weights: law, Fee: (i + k) % 3})
		}
		boxes = append(boxes, impl.Box{Weights: []int{-77}, Fee: -77})
		names := fmt.Sprint(boxes)
		for _, call := range boxCalls() {
			checkSame(t, fmt.Sprint(call.name, " of ", names), func() (any, bool) { return call.call(boxes[:len(laws)]) })
		}
		for _, box := range boxes[:len(laws)] {
			checkSame(t, fmt.Sprint("BoxIndex of ", box), func() (any, bool) { return anyOf(impl.BoxIndex(box)) })
		}
		if fmt.Sprint(boxes) != names || !sameTables(wholes, kept) {
			t.Fatalf("Boxes %s are changed or share their memory", names)
		}
	}
}
