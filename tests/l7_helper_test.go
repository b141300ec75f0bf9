package tests

import (
	"math"
	"math/big"
	"slices"

	"loop.example/g01131/impl"
)

// The limits are written out so that a changed constant is noticed.
const (
	mostLaws   = 4
	mostValues = 5
	mostPeople = 10
	mostBoxFee = 20
)

// lawsOf returns all laws of at most size weights that are among some.
func lawsOf(size int, weights ...int) [][]int {
	var laws [][]int
	for n := 1; n <= size; n++ {
		tuples(weights, n, func(list []int) {
			if slices.Max(list) > 0 {
				laws = append(laws, slices.Clone(list))
			}
		})
	}
	return laws
}

// limitLaws returns laws that reach a limit: of size, of weights, or of both.
func limitLaws() [][]int {
	return [][]int{
		{1}, {mostValues}, {0, mostValues}, {mostValues, mostValues, mostValues, mostValues, mostValues}, {0, 0, 0, 0, mostValues}, {0, 0, 0, 0, 1},
		{mostValues, 0, 0, 0, 1}, {1, 0, 0, 0, mostValues}, {mostValues, mostValues, mostValues, mostValues, 4}, {mostValues, 4, 3, mostValues, 2},
	}
}

// rolledLaw returns a law of rolled weights.
func rolledLaw(rolls *dice) []int {
	law := make([]int, rolls.between(1, mostValues))
	for slices.Max(law) == 0 {
		for value := range law {
			law[value] = rolls.between(0, mostValues)
		}
	}
	return law
}

// smallOffers returns lists of few offers whose laws have few values.
func smallOffers() [][][]int {
	lists := [][][]int{nil, {}}
	for _, a := range lawsOf(3, 0, 1, 3) {
		lists = append(lists, [][]int{a})
		for _, b := range lawsOf(3, 0, 1) {
			lists = append(lists, [][]int{a, b}, [][]int{b, a}, [][]int{b, {1, 2}, a})
		}
	}
	return lists
}

// someOffers returns small offers, all pairs of laws at the limits, lists of them, and rolled ones.
func someOffers() [][][]int {
	lists := smallOffers()
	limits := limitLaws()
	for i, a := range limits {
		lists = append(lists, [][]int{a}, [][]int{a, a, a}, [][]int{a, a, a, a})
		for k, b := range limits {
			lists = append(lists, [][]int{a, b}, [][]int{b, a, a, b}, [][]int{limits[(i+k)%len(limits)], a, limits[(i+k+1)%len(limits)], b})
		}
	}
	rolls := &dice{7}
	for i := range 800 {
		var laws [][]int
		for range i % (mostLaws + 1) {
			laws = append(laws, rolledLaw(rolls))
		}
		lists = append(lists, laws)
	}
	return lists
}

// badLaws returns lists that are no laws.
func badLaws() [][]int {
	bad := [][]int{nil, {}, {0}, {0, 0}, {0, 0, 0, 0, 0}, make([]int, 1<<16), {1, 1, 1, 1, 1, 1}, {0, 0, 0, 0, 0, 1}, slices.Repeat([]int{1}, 1<<16), {2, -1}, {1, -1, 0}}
	for _, weight := range []int{-1, mostValues + 1, math.MaxInt, math.MinInt} {
		bad = append(bad, []int{weight}, []int{1, weight}, []int{weight, 1}, []int{0, 0, 0, 0, weight}, []int{weight, -weight}, []int{weight, weight, 2})
	}
	return bad
}

// badOffers returns lists of laws that are not valid, by one of them or by their number.
func badOffers() [][][]int {
	good := []int{1, 2}
	lists := [][][]int{
		slices.Repeat([][]int{good}, mostLaws+1), slices.Repeat([][]int{{1}}, mostLaws+1), slices.Repeat([][]int{good}, 1<<12), make([][]int, 1), make([][]int, 1<<12),
	}
	for _, bad := range badLaws() {
		lists = append(lists, [][]int{bad}, [][]int{good, bad}, [][]int{bad, good}, [][]int{good, good, good, bad}, [][]int{good, bad, good, good})
	}
	return lists
}

// draws calls visit with each way to draw a value of each law, and the product of their weights.
func draws(laws [][]int, visit func(values []int, weight int)) {
	values := make([]int, len(laws))
	var draw func(i int, weight int)
	draw = func(i int, weight int) {
		if i == len(laws) {
			visit(values, weight)
			return
		}
		for value, more := range laws[i] {
			values[i] = value
			draw(i+1, weight*more)
		}
	}
	draw(0, 1)
}

// meanOver returns the mean of what is had over all ways to draw.
func meanOver(laws [][]int, had func(values []int) int) *big.Rat {
	sum, weights := 0, 0
	draws(laws, func(values []int, weight int) {
		sum += weight * had(values)
		weights += weight
	})
	return rat(sum, weights)
}

// greatestOf returns the greatest value, 0 if there is none.
func greatestOf(values []int) int {
	return slices.Max(append([]int{0}, values...))
}

// firstFrom returns the first value that is at least a number, 0 if there is none.
func firstFrom(values []int, least int) int {
	for _, value := range values {
		if value >= least {
			return value
		}
	}
	return 0
}

// timesTwo returns the double of a number.
func timesTwo(x *big.Rat) *big.Rat { return new(big.Rat).Add(x, x) }

// maxRat returns the greater one of two numbers.
func maxRat(x *big.Rat, y *big.Rat) *big.Rat {
	if x.Cmp(y) < 0 {
		return y
	}
	return x
}

// bestMeans returns for each number of offers that have gone the greatest mean of a gambler, who
// takes what is greater than the mean behind it.
func bestMeans(laws [][]int) []*big.Rat {
	means := []*big.Rat{rat(0, 1)}
	for i := len(laws) - 1; i >= 0; i-- {
		sum, weights := rat(0, 1), 0
		for value, weight := range laws[i] {
			worth := maxRat(rat(value, 1), means[0])
			sum.Add(sum, new(big.Rat).Mul(worth, rat(weight, 1)))
			weights += weight
		}
		means = append([]*big.Rat{sum.Quo(sum, rat(weights, 1))}, means...)
	}
	return means
}

// orders calls visit with each order in which n people may come, 0 for the best one.
func orders(n int, visit func(order []int)) {
	order := make([]int, 0, n)
	isHere := make([]bool, n)
	var come func()
	come = func() {
		if len(order) == n {
			visit(order)
			return
		}
		for one := range n {
			if !isHere[one] {
				isHere[one], order = true, append(order, one)
				come()
				isHere[one], order = false, order[:len(order)-1]
			}
		}
	}
	come()
}

// rankAt returns how many of the first i people are better than the one behind them.
func rankAt(order []int, i int) int {
	rank := 0
	for _, before := range order[:i] {
		if before < order[i] {
			rank++
		}
	}
	return rank
}

// takenBy returns the place of the first one whom a rule takes, the last one if there is none.
func takenBy(order []int, takes func(i int, rank int) bool) int {
	for i := range order {
		if takes(i, rankAt(order, i)) {
			return i
		}
	}
	return len(order) - 1
}

// isIndex reports whether z is the index of a Box: with it, the mean of the greater one of 0 and
// the value less z is the Fee, and with a Fee of 0, it is the greatest value with a weight.
func isIndex(b impl.Box, z *big.Rat) bool {
	mean := meanOfRest(b, z)
	if mean.Cmp(rat(b.Fee, 1)) != 0 {
		return false
	}
	if b.Fee > 0 {
		return true
	}
	for value := len(b.Weights) - 1; ; value-- {
		if b.Weights[value] > 0 {
			return z.Cmp(rat(value, 1)) == 0
		}
	}
}

// meanOfRest returns the mean of the greater one of 0 and the value less z.
func meanOfRest(b impl.Box, z *big.Rat) *big.Rat {
	sum, weights := rat(0, 1), 0
	for value, weight := range b.Weights {
		rest := maxRat(rat(0, 1), new(big.Rat).Sub(rat(value, 1), z))
		sum.Add(sum, rest.Mul(rest, rat(weight, 1)))
		weights += weight
	}
	return sum.Quo(sum, rat(weights, 1))
}

// indexOf tries, for each value, whether the index is such that it and all greater values are
// greater than it, and no others.
func indexOf(b impl.Box) *big.Rat {
	for least := range b.Weights {
		top, bottom := 0, 0
		for value, weight := range b.Weights {
			top -= weight * b.Fee
			if value >= least {
				top += weight * value
				bottom += weight
			}
		}
		if bottom > 0 && isIndex(b, rat(top, bottom)) {
			return rat(top, bottom)
		}
	}
	return nil
}

func lawsIn(boxes []impl.Box) [][]int {
	var laws [][]int
	for _, box := range boxes {
		laws = append(laws, box.Weights)
	}
	return laws
}

// someBoxes returns small lists of Boxes, those at the limits, and rolled ones.
func someBoxes() [][]impl.Box {
	lists := [][]impl.Box{nil, {}}
	var few []impl.Box
	for i, law := range append(limitLaws(), []int{1, 1}, []int{0, 1, 1}, []int{1, 0, 2}, []int{3, 1, 0, 1}) {
		for _, fee := range []int{0, 1, 2, 3 + i, mostBoxFee} {
			few = append(few, impl.Box{Weights: law, Fee: fee})
		}
	}
	for i, box := range few {
		lists = append(lists, []impl.Box{box}, []impl.Box{box, box}, []impl.Box{box, box, box}, []impl.Box{box, box, box, box})
		for k := range few {
			lists = append(lists, []impl.Box{box, few[k]})
			if (i+k)%5 == 0 {
				lists = append(lists, []impl.Box{few[k], box, few[(i+3*k+1)%len(few)]})
			}
		}
	}
	rolls := &dice{5}
	for i := range 600 {
		lists = append(lists, rolledBoxes(rolls, i%(mostLaws+1)))
	}
	return lists
}

// rolledBoxes returns Boxes of which many have indices greater than 0.
func rolledBoxes(rolls *dice, size int) []impl.Box {
	var boxes []impl.Box
	for range size {
		boxes = append(boxes, impl.Box{Weights: rolledLaw(rolls), Fee: rolls.below(rolls.between(1, 4))})
	}
	return boxes
}

// badBoxes returns lists of Boxes that are not valid, by one of them or by their number.
func badBoxes() [][]impl.Box {
	good := impl.Box{Weights: []int{1, 1}, Fee: 1}
	lists := [][]impl.Box{slices.Repeat([]impl.Box{good}, mostLaws+1), slices.Repeat([]impl.Box{good}, 1<<12), make([]impl.Box, 1), make([]impl.Box, 1<<12)}
	for _, bad := range badSingleBoxes() {
		lists = append(lists, []impl.Box{bad}, []impl.Box{good, bad}, []impl.Box{bad, good}, []impl.Box{good, good, good, bad}, []impl.Box{good, bad, good, good})
	}
	return lists
}

// badSingleBoxes returns Boxes that are not valid, by their Weights or by their Fee.
func badSingleBoxes() []impl.Box {
	var boxes []impl.Box
	for _, law := range badLaws() {
		boxes = append(boxes, impl.Box{Weights: law}, impl.Box{Weights: law, Fee: mostBoxFee})
	}
	for _, fee := range []int{-1, mostBoxFee + 1, math.MaxInt, math.MinInt} {
		boxes = append(boxes, impl.Box{Weights: []int{1}, Fee: fee}, impl.Box{Weights: limitLaws()[3], Fee: fee})
	}
	return boxes
}

// checkedFraction is a result of a function that returns a fraction.
type checkedFraction struct {
	f  [2]int
	ok bool
}

func fractionAnd(f [2]int, ok bool) checkedFraction { return checkedFraction{f, ok} }
