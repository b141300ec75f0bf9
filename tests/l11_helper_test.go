package tests

import (
	"math"
	"math/big"
	"slices"
	"testing"
)

// The limits are written out so that a changed constant is noticed.
const (
	mostOdds    = 9
	mostLuck    = 4
	mostGrid    = 10
	mostRunners = 4
	mostSplit   = 12
	mostUse     = 999
	mostHoard   = 12
	mostRounds  = 5
)

// bet has odds of a to b, and the weights of winning and of losing.
type bet struct{ a, b, w, l int }

// areLuck reports whether two numbers are the weights of a bet.
func areLuck(w int, l int) bool {
	return isIn(w, 0, mostLuck) && isIn(l, 0, mostLuck) && (w != 0 || l != 0)
}

// allLucks returns the weights of all bets.
func allLucks() [][2]int {
	var lucks [][2]int
	for w := range mostLuck + 1 {
		for l := range mostLuck + 1 {
			if w+l > 0 {
				lucks = append(lucks, [2]int{w, l})
			}
		}
	}
	return lucks
}

// badLucks returns pairs of numbers that are no weights of a bet.
func badLucks() [][2]int {
	lucks := [][2]int{{0, 0}, {-1, 1}, {1, -1}, {-1, -1}, {-1, 2}, {2, -1}, {-2, 4}}
	for _, bad := range []int{-1, mostLuck + 1, math.MaxInt, math.MinInt} {
		lucks = append(lucks, [2]int{bad, 0}, [2]int{0, bad}, [2]int{bad, 1}, [2]int{1, bad}, [2]int{mostLuck, bad}, [2]int{bad, bad}, [2]int{bad, -bad})
	}
	return lucks
}

func allBets() []bet {
	var bets []bet
	for a := 1; a <= mostOdds; a++ {
		for b := 1; b <= mostOdds; b++ {
			for _, luck := range allLucks() {
				bets = append(bets, bet{a, b, luck[0], luck[1]})
			}
		}
	}
	return bets
}

// badBets returns bets that are not valid by their odds or by their weights.
func badBets() []bet {
	var bets []bet
	for _, bad := range []int{0, -1, mostOdds + 1, math.MaxInt, math.MinInt} {
		bets = append(bets, bet{bad, 1, 1, 1}, bet{1, bad, 1, 1}, bet{bad, bad, 1, 1}, bet{bad, 1, 0, 1}, bet{1, bad, 1, 0}, bet{-bad, bad, 2, 1})
	}
	for _, luck := range badLucks() {
		bets = append(bets, bet{1, 1, luck[0], luck[1]}, bet{mostOdds, 1, luck[0], luck[1]})
	}
	return bets
}

// behind wins and loses a bet, one time after the other, with a part of all that one has.
func (x bet) behind(part *big.Rat) *big.Rat {
	has := rat(1, 1)
	for range x.w {
		stake := new(big.Rat).Mul(has, part)
		has.Add(has, stake.Mul(stake, rat(x.a, x.b)))
	}
	for range x.l {
		has.Sub(has, new(big.Rat).Mul(has, part))
	}
	return has
}

// growth multiplies, time by time, what a share makes of n parts.
func (x bet) growth(n int, k int) int {
	product := 1
	for range x.w {
		product *= n*x.b + k*x.a
	}
	for range x.l {
		product *= n - k
	}
	return product
}

// fair returns the fair share.
func (x bet) fair() *big.Rat {
	return maxRat(rat(0, 1), rat(x.w*x.a-x.l*x.b, x.w*x.a+x.l*x.a))
}

// eachRace calls visit with the weights of all races.
func eachRace(visit func(weights []int)) {
	for runners := 1; runners <= mostRunners; runners++ {
		tuples([]int{1, 2, 3, mostLuck}, runners, visit)
	}
}

// badRaces returns lists that have not the weights of runners.
func badRaces() [][]int {
	lists := [][]int{nil, {}, slices.Repeat([]int{1}, mostRunners+1), make([]int, 1<<16), slices.Repeat([]int{1}, 1<<16)}
	for _, bad := range []int{0, -1, mostLuck + 1, math.MaxInt, math.MinInt} {
		lists = append(lists, []int{bad}, []int{1, bad}, []int{bad, 1}, []int{1, 1, 1, bad}, []int{bad, bad}, []int{2, 3, bad}, []int{-bad, bad, 1})
	}
	return lists
}

func isRace(weights []int) bool {
	return isIn(len(weights), 1, mostRunners) && areFrom(weights, 1, mostLuck)
}

// isSplit reports whether a list is a split of some n among a number of runners.
func isSplit(runners int, split []int) bool {
	return len(split) == runners && areFrom(split, 0, mostSplit) && sumOf(split) <= mostSplit
}

// isUse reports whether a list is a use.
func isUse(u []int) bool { return isIn(len(u), 1, mostHoard+1) && areFrom(u, 0, mostUse) }

// badUses returns lists that are no uses.
func badUses() [][]int {
	lists := [][]int{nil, {}, make([]int, mostHoard+2), slices.Repeat([]int{mostUse}, mostHoard+2), facesOf(mostHoard + 2), make([]int, 1<<16)}
	for _, bad := range []int{-1, mostUse + 1, math.MaxInt, math.MinInt} {
		lists = append(lists, []int{bad}, []int{0, bad}, []int{bad, 0}, []int{1, bad, 2}, []int{bad, bad})
		for i := range mostHoard + 1 {
			u := facesOf(mostHoard + 1)
			u[i] = bad
			lists = append(lists, u)
		}
	}
	return lists
}

// rolledUse returns a use of any numbers up to most.
func rolledUse(rolls *dice, size int, most int) []int {
	u := make([]int, size)
	for i := range u {
		u[i] = rolls.between(0, most)
	}
	return u
}

// slowingUse returns a use whose differences never get greater, and which rises on its first part
// alone if it may fall.
func slowingUse(rolls *dice, size int, mayFall bool) []int {
	steps := make([]int, size)
	for i := range steps {
		steps[i] = rolls.between(0, rolls.between(0, 70))
		if mayFall {
			steps[i] -= 30
		}
	}
	slices.Sort(steps)
	slices.Reverse(steps)
	u := []int{500}
	if !mayFall {
		u[0] = rolls.between(0, 70)
	}
	for _, step := range steps[1:] {
		u = append(u, max(0, u[len(u)-1]+step))
	}
	// A fall may have come to an end at 0, which is not concave.
	if mayFall && u[size-1] == 0 {
		return make([]int, size)
	}
	return u
}

// limitUses returns uses of a size with numbers at the limits, that rise, fall, and do both.
func limitUses(size int) [][]int {
	var uses [][]int
	for _, number := range []func(i int) int{
		func(i int) int { return 0 }, func(i int) int { return mostUse }, func(i int) int { return i }, func(i int) int { return mostUse - i }, func(i int) int { return i * i }, func(i int) int { return 24*i - i*i },
		func(i int) int { return mostUse * (i % 2) }, func(i int) int { return mostUse * (1 - i%2) }, func(i int) int { return i % 3 }, func(i int) int { return mostUse * (i / (mostHoard - 1)) }, func(i int) int { return min(i, 4) }, func(i int) int { return max(i, 6) },
	} {
		u := make([]int, size)
		for i := range u {
			u[i] = number(i)
		}
		uses = append(uses, u)
	}
	return uses
}

// usesOf returns uses of a size of all kinds.
func usesOf(rolls *dice, size int) [][]int {
	uses := limitUses(size)
	for range 3 {
		rising := rolledUse(rolls, size, 40)
		slices.Sort(rising)
		uses = append(uses, rising, rolledUse(rolls, size, mostUse), rolledUse(rolls, size, 3), slowingUse(rolls, size, false), slowingUse(rolls, size, true))
	}
	return uses
}

// manyUses returns all uses of few small numbers, and uses of all sizes.
func manyUses() [][]int {
	var uses [][]int
	for size := 1; size <= 4; size++ {
		tuples([]int{0, 1, 2, 3}, size, func(u []int) { uses = append(uses, slices.Clone(u)) })
	}
	rolls := &dice{11}
	for size := 1; size <= mostHoard+1; size++ {
		uses = append(uses, usesOf(rolls, size)...)
	}
	return uses
}

// isRising compares all numbers of a use with all before them.
func isRising(u []int) bool {
	for i := range u {
		for k := range i {
			if u[i] < u[k] {
				return false
			}
		}
	}
	return true
}

// isConcave reports whether no number of a use is below a line between two others.
func isConcave(u []int) bool {
	for i := range u {
		for k := i + 1; k < len(u); k++ {
			for n := k + 1; n < len(u); n++ {
				if (u[k]-u[i])*(n-k) < (u[n]-u[k])*(k-i) {
					return false
				}
			}
		}
	}
	return true
}

// hoard is a use with the weights of rounds.
type hoard struct {
	u    []int
	w, l int
}

// hoardsOf returns all of some uses with all weights.
func hoardsOf(uses [][]int) []hoard {
	var hoards []hoard
	for _, u := range uses {
		for _, luck := range allLucks() {
			hoards = append(hoards, hoard{u, luck[0], luck[1]})
		}
	}
	return hoards
}

// fewHoards returns hoards of all sizes.
func fewHoards() []hoard {
	rolls := &dice{12}
	var uses [][]int
	for size := 1; size <= mostHoard+1; size++ {
		uses = append(uses, usesOf(rolls, size)...)
	}
	return hoardsOf(uses)
}

func (h hoard) top() int { return len(h.u) - 1 }

func (h hoard) isValid() bool { return isUse(h.u) && areLuck(h.w, h.l) }

func (h hoard) mostStake(coins int) int { return min(coins, h.top()-coins) }

// wager returns the wager for the greatest purse.
func (h hoard) wager() wager { return wager{h.w, h.l, h.top()} }

// table returns for 0, 1, .. rounds left the worth of each purse.
func (h hoard) table(rounds int) [][]int {
	table := [][]int{h.u}
	for r := range rounds {
		table = append(table, h.wager().rowBefore(table[r], anyStake))
	}
	return table
}

// plan returns for 1, 2, .. rounds left, by their table, the least best stake of each purse.
func (h hoard) plan(table [][]int) [][]int {
	plan := [][]int{}
	for r := 1; r < len(table); r++ {
		row := make([]int, len(h.u))
		for coins := range row {
			for h.wager().afterStake(table[r-1], coins, row[coins]) < table[r][coins] {
				row[coins]++
			}
		}
		plan = append(plan, row)
	}
	return plan
}

// badHoards returns hoards whose use or weights are not valid.
func badHoards() []hoard {
	var hoards []hoard
	for _, u := range badUses() {
		hoards = append(hoards, hoard{u, 1, 1}, hoard{u, 0, mostLuck})
	}
	for _, luck := range badLucks() {
		hoards = append(hoards, hoard{[]int{3}, luck[0], luck[1]}, hoard{facesOf(mostHoard + 1), luck[0], luck[1]}, hoard{[]int{0, 4, 1}, luck[0], luck[1]})
	}
	return hoards
}

// checkTable compares a table with the one that it must be.
func checkTable(t *testing.T, want [][]int) func(got [][]int, ok bool) {
	t.Helper()
	return func(got [][]int, ok bool) {
		t.Helper()
		if !ok || !sameTables(got, want) {
			t.Errorf("%v, %v; want %v", got, ok, want)
		}
	}
}

func checkNoTable(t *testing.T) func(got [][]int, ok bool) {
	t.Helper()
	return func(got [][]int, ok bool) {
		t.Helper()
		if ok || len(got) > 0 {
			t.Errorf("%v, %v; want it to fail", got, ok)
		}
	}
}
