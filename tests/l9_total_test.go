package tests

import (
	"fmt"
	"math"
	"math/big"
	"slices"
	"testing"

	"loop.example/g01131/impl"
)

// cardCalls returns a call of each function of chapter 9 that has numbers alone as arguments.
func cardCalls() []numberCall {
	isVase := func(n []int) bool { return vase{n[0], n[1], n[2]}.isValid() && isIn(n[3], 0, mostDraws) }
	haveMean := func(n []int) bool { return isIn(n[0], 1, mostCards) }
	areCards := func(n []int) bool { return isIn(n[0], 0, mostCards) }
	return []numberCall{
		{"UrnCounts", 4, func(n []int) (any, bool) { return anyOf(impl.UrnCounts(n[0], n[1], n[2], n[3])) }, func(n []int) bool {
			return isVase(n) && areFractions(vase{n[0], n[1], n[2]}.redChances(n[3]))
		}},
		{"UrnMean", 4, func(n []int) (any, bool) { return anyOf(impl.UrnMean(n[0], n[1], n[2], n[3])) }, isVase},
		{"CouponMean", 1, func(n []int) (any, bool) { return anyOf(impl.CouponMean(n[0])) }, haveMean},
		{"CouponCounts", 2, func(n []int) (any, bool) { return anyOf(impl.CouponCounts(n[0], n[1])) }, func(n []int) bool {
			return isIn(n[0], 1, mostThrow) && isIn(n[1], 0, mostThrow)
		}},
		{"RecordMean", 1, func(n []int) (any, bool) { return anyOf(impl.RecordMean(n[0])) }, haveMean},
		{"RecordCounts", 1, func(n []int) (any, bool) { return anyOf(impl.RecordCounts(n[0])) }, areCards},
		{"MatchCounts", 1, func(n []int) (any, bool) { return anyOf(impl.MatchCounts(n[0])) }, areCards},
		{"DerangedCount", 1, func(n []int) (any, bool) { return anyOf(impl.DerangedCount(n[0])) }, areCards},
	}
}

// wordCall calls one function of dice or urns with arguments of its choice, and returns its results
// but for the last one, and this; isValid tells whether the call succeeds.
type wordCall struct {
	name    string
	call    func(f int, a []int, b []int, n int) (any, bool)
	isValid func(f int, a []int, b []int, n int) bool
}

// wordCalls returns a call of each function of chapter 9 that has a list as its argument.
func wordCalls() []wordCall {
	areWords := func(f int, a []int, b []int, n int) bool { return isWord(f, a) && isWord(f, b) }
	return []wordCall{
		{"UrnChance", func(f int, a []int, b []int, n int) (any, bool) { return anyOf(impl.UrnChance(f, 2, n, a)) }, func(f int, a []int, b []int, n int) bool {
			v := vase{f, 2, n}
			return v.isValid() && isDrawList(a) && areFractions([]*big.Rat{v.chanceOf(a)})
		}},
		{"OverlapsOf", func(f int, a []int, b []int, n int) (any, bool) { return anyOf(impl.OverlapsOf(f, a, b)) }, areWords},
		{"WordWait", func(f int, a []int, b []int, n int) (any, bool) { return anyOf(impl.WordWait(f, a)) }, func(f int, a []int, b []int, n int) bool { return isWord(f, a) }},
		{"FirstFound", func(f int, a []int, b []int, n int) (any, bool) { return anyOf(impl.FirstFound(f, a, n)) }, func(f int, a []int, b []int, n int) bool {
			return isWord(f, a) && isIn(n, 0, mostThrow)
		}},
		{"TeamWins", func(f int, a []int, b []int, n int) (any, bool) { return anyOf(impl.TeamWins(f, a, b)) }, func(f int, a []int, b []int, n int) bool {
			return isWord(f, a) && len(b) <= mostThrow && areFrom(b, 0, f-1)
		}},
		{"WordOdds", func(f int, a []int, b []int, n int) (any, bool) { return anyOf(impl.WordOdds(f, a, b)) }, func(f int, a []int, b []int, n int) bool {
			return areWords(f, a, b, n) && len(a) == len(b) && !slices.Equal(a, b)
		}},
	}
}

// cardEdges returns numbers at the limits of chapter 9 and just beyond them, and those at the limits
// of int.
func cardEdges() []int {
	return []int{
		0, 1, 2, -1, mostFaces, mostFaces + 1, mostThrow, mostThrow + 1, mostDraws, mostDraws + 1, mostCards, mostCards + 1, mostBalls, mostBalls + 1, math.MaxInt, math.MaxInt - 1, math.MinInt, math.MinInt + 1,
	}
}

// wordEdges returns lists of all kinds, with words, throws and draw lists at the limits and just
// beyond them among them.
func wordEdges() [][]int {
	lists := append(oddLists(), []int{0, 1}, []int{1, 0}, []int{1, 0, 1, 0, 1, 0}, []int{5, 4, 3, 2, 1, 0}, []int{5, 6}, []int{-1, 1})
	for _, size := range []int{mostWord, mostWord + 1, mostThrow, mostThrow + 1, mostDraws, mostDraws + 1} {
		lists = append(lists, make([]int, size), slices.Repeat([]int{1}, size))
	}
	return lists
}

// A panic in a call fails the test, as does a call that does not return.
func TestPromise13CardsOfAllNumbers(t *testing.T) {
	for _, call := range cardCalls() {
		tuples(cardEdges(), call.size, func(n []int) {
			result, ok := call.call(n)
			if ok != call.isValid(n) || !ok && !isNothing(result) || ok && !isInBounds(result) {
				t.Errorf("%s of %v = %v, %v", call.name, n, result, ok)
			}
		})
	}
}

func TestPromise13WordsOfAllKinds(t *testing.T) {
	for _, call := range wordCalls() {
		for _, a := range wordEdges() {
			for _, b := range wordEdges() {
				tuples(cardEdges(), 2, func(n []int) {
					result, ok := call.call(n[0], a, b, n[1])
					if ok != call.isValid(n[0], a, b, n[1]) || !ok && !isNothing(result) || ok && !isInBounds(result) {
						t.Errorf("%s of %v, %.9v, %.9v = %v, %v", call.name, n, a, b, result, ok)
					}
				})
			}
		}
	}
}

func TestPromise13CardsAreTheirOwn(t *testing.T) {
	for _, call := range cardCalls() {
		tuples([]int{0, 1, 2, 7, mostThrow, mostCards, mostBalls}, call.size, func(n []int) {
			checkSame(t, fmt.Sprint(call.name, " of ", n), func() (any, bool) { return call.call(n) })
		})
	}
}

func TestPromise13WordsStayAsTheyAre(t *testing.T) {
	lists := [][]int{
		nil, {0}, {1}, {0, 1}, {1, 0, 1}, {0, 0, 1, 0}, {1, 0, 1, 0, 1, 0}, {0, 0, 0, 1, 0, 1, 0}, {2, 2}, {0, -1}, make([]int, mostThrow), make([]int, mostThrow+1), make([]int, mostDraws), make([]int, mostDraws+1),
	}
	for _, call := range wordCalls() {
		for _, a := range lists {
			for _, b := range lists {
				for _, n := range [][2]int{{1, 3}, {2, 0}, {3, mostThrow}, {0, 1}, {mostFaces, -1}, {mostFaces + 1, 1}} {
					given, wholes := roomyLists([][]int{a, b})
					kept := cloneTable(wholes)
					what := fmt.Sprint(call.name, " of ", n, a, b)
					checkSame(t, what, func() (any, bool) { return call.call(n[0], given[0], given[1], n[1]) })
					if !sameTables(wholes, kept) {
						t.Fatalf("%s changes an argument or shares its memory", what)
					}
				}
			}
		}
	}
}

// One list may be both words, or the word and the throws.
func TestPromise13WordsThatAreOneList(t *testing.T) {
	for _, call := range wordCalls() {
		eachWord(3, 4, func(f int, word []int) {
			given, whole := roomy(word)
			kept := slices.Clone(whole)
			checkSame(t, fmt.Sprint(call.name, " of ", f, word), func() (any, bool) { return call.call(f, given, given, 2) })
			if !slices.Equal(whole, kept) {
				t.Fatalf("%s of %d, %v changes its argument", call.name, f, word)
			}
		})
	}
}
