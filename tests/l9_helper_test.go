package tests

import (
	"math"
	"math/big"
	"slices"
	"testing"
)

// The limits are written out so that a changed constant is noticed.
const (
	mostBalls = 20
	mostDraws = 10
	mostFaces = 6
	mostWord  = 6
	mostThrow = 8
	mostCards = 12
)

// vase is an urn with its extra.
type vase struct{ red, blue, extra int }

func (v vase) isValid() bool {
	return isIn(v.red, 0, mostBalls) && isIn(v.blue, 0, mostBalls) && isIn(v.extra, 0, mostBalls) && v.red+v.blue > 0
}

// vasesOf returns all urns with some extras.
func vasesOf(extras ...int) []vase {
	var vases []vase
	for red := range mostBalls + 1 {
		for blue := range mostBalls + 1 {
			for _, extra := range extras {
				if red+blue > 0 {
					vases = append(vases, vase{red, blue, extra})
				}
			}
		}
	}
	return vases
}

// someVases returns small urns, urns of one colour, and those at the limits.
func someVases() []vase {
	vases := []vase{{4, 20, 19}, {1, 1, 8}, {7, 11, 13}, {1, 9, 0}}
	tuples([]int{0, 1, 2, 3, mostBalls - 1, mostBalls}, 3, func(n []int) {
		if v := (vase{n[0], n[1], n[2]}); v.isValid() {
			vases = append(vases, v)
		}
	})
	return vases
}

// badVases returns urns that are not valid, by one of their numbers or as they have no balls.
func badVases() []vase {
	vases := []vase{{0, 0, 0}, {0, 0, 1}, {0, 0, mostBalls}, {0, 0, -1}, {-1, 1, 1}, {1, -1, 1}}
	for _, bad := range []int{-1, mostBalls + 1, math.MaxInt, math.MinInt} {
		vases = append(vases, vase{bad, 1, 1}, vase{1, bad, 1}, vase{1, 1, bad}, vase{bad, 0, 0}, vase{0, bad, 0}, vase{bad, bad, bad}, vase{bad, -bad, 1})
	}
	return vases
}

// after returns the chance that a draw is red if so many of the draws before were red and blue.
func (v vase) after(reds int, blues int) *big.Rat {
	return rat(v.red+reds*v.extra, v.red+v.blue+(reds+blues)*v.extra)
}

// chanceOf returns the chance of a draw list, draw by draw.
func (v vase) chanceOf(list []int) *big.Rat {
	chance, numbers := rat(1, 1), [2]int{}
	for _, draw := range list {
		next := v.after(numbers[1], numbers[0])
		if draw == 0 {
			next.Sub(rat(1, 1), next)
		}
		chance.Mul(chance, next)
		numbers[draw]++
	}
	return chance
}

// redChances returns for each number of red draws its chance behind n draws, draw by draw.
func (v vase) redChances(n int) []*big.Rat {
	chances := []*big.Rat{rat(1, 1)}
	for drawn := range n {
		next := []*big.Rat{rat(0, 1)}
		for reds, chance := range chances {
			red := new(big.Rat).Mul(chance, v.after(reds, drawn-reds))
			next[reds].Add(next[reds], new(big.Rat).Sub(chance, red))
			next = append(next, red)
		}
		chances = next
	}
	return chances
}

// isDrawList reports whether a list is a draw list.
func isDrawList(list []int) bool { return len(list) <= mostDraws && areFrom(list, 0, 1) }

// badDraws returns lists that are no draw lists.
func badDraws() [][]int {
	lists := [][]int{slices.Repeat([]int{1}, mostDraws+1), make([]int, mostDraws+1), make([]int, 1<<16)}
	for _, bad := range []int{2, -1, math.MaxInt, math.MinInt} {
		lists = append(lists, []int{bad}, []int{1, bad}, []int{bad, 0}, append(make([]int, mostDraws-1), bad), []int{bad, -bad}, []int{bad, -bad, 1})
	}
	return lists
}

// facesOf returns the faces of a die.
func facesOf(f int) []int {
	var faces []int
	for face := range f {
		faces = append(faces, face)
	}
	return faces
}

// eachWord calls visit with all words of dice with at most so many faces that have at most so many.
func eachWord(faces int, most int, visit func(f int, word []int)) {
	for f := 1; f <= faces; f++ {
		for size := 1; size <= most; size++ {
			tuples(facesOf(f), size, func(word []int) { visit(f, word) })
		}
	}
}

// eachPair calls visit with all pairs of words of dice with at most so many faces that have at most
// so many.
func eachPair(faces int, most int, visit func(f int, a []int, b []int)) {
	eachWord(faces, most, func(f int, a []int) {
		for size := 1; size <= most; size++ {
			tuples(facesOf(f), size, func(b []int) { visit(f, a, b) })
		}
	})
}

// rolledWord returns a word of a die, with few of its faces now and then so that it has overlaps.
func rolledWord(rolls *dice, f int, size int) []int {
	word, faces := make([]int, size), rolls.between(1, f)
	for i := range word {
		word[i] = rolls.below(faces)
	}
	return word
}

// isWord reports whether a list is a word of a die.
func isWord(f int, list []int) bool {
	return isIn(f, 1, mostFaces) && isIn(len(list), 1, mostWord) && areFrom(list, 0, f-1)
}

// badWords returns dice and lists that are no words of theirs.
func badWords() []struct {
	f    int
	word []int
} {
	type pair = struct {
		f    int
		word []int
	}
	var pairs []pair
	for f := 1; f <= mostFaces; f++ {
		pairs = append(pairs, pair{f, nil}, pair{f, []int{}}, pair{f, make([]int, mostWord+1)}, pair{f, make([]int, 1<<16)})
		for _, bad := range []int{f, f + 1, -1, math.MaxInt, math.MinInt} {
			pairs = append(pairs, pair{f, []int{bad}}, pair{f, []int{0, bad}}, pair{f, []int{bad, 0}}, pair{f, []int{0, 0, 0, 0, 0, bad}}, pair{f, []int{bad, bad}})
		}
	}
	for _, f := range []int{0, -1, mostFaces + 1, math.MaxInt, math.MinInt} {
		pairs = append(pairs, pair{f, []int{0}}, pair{f, []int{0, 0}}, pair{f, nil}, pair{f, []int{f - 1}}, pair{f, []int{1, 0}}, pair{f, []int{-1}})
	}
	return pairs
}

// ends reports whether a list ends with a word.
func ends(list []int, word []int) bool {
	return len(list) >= len(word) && slices.Equal(list[len(list)-len(word):], word)
}

// foundAt returns the number of throws at which a word is found, and one more than there are if it
// is not found.
func foundAt(word []int, throws []int) int {
	for m := range len(throws) + 1 {
		if ends(throws[:m], word) {
			return m
		}
	}
	return len(throws) + 1
}

// finder tells for each number of first faces of a word that the last throws show how many they show
// behind each face of one more throw; it has nothing for the whole word.
type finder [][]int

func finderOf(f int, word []int) finder {
	var all finder
	for shown := range word {
		next := make([]int, f)
		for face := range next {
			throws := append(slices.Clone(word[:shown]), face)
			for k := 1; k <= shown+1; k++ {
				if ends(throws, word[:k]) {
					next[face] = k
				}
			}
		}
		all = append(all, next)
	}
	return all
}

// wait returns the mean number of throws until the word is found: that of each state is 1 more than
// the mean over the states behind a throw. All of them are told as x + y times the first one, until
// that of the whole word, 0, is met.
func (all finder) wait() *big.Rat {
	x, y := []int{0}, []int{1}
	for shown, next := range all {
		moreX, moreY := len(next)*(x[shown]-1), len(next)*y[shown]
		for _, to := range next {
			if to <= shown {
				moreX, moreY = moreX-x[to], moreY-y[to]
			}
		}
		x, y = append(x, moreX), append(y, moreY)
	}
	return rat(-x[len(all)], y[len(all)])
}

// firstFound returns for each m from 0 to n the number of lists of m throws at the end of which the
// word is found for the first time.
func (all finder) firstFound(n int) []int {
	counts, states := []int{0}, make([]int, len(all)+1)
	states[0] = 1
	for range n {
		after := make([]int, len(all)+1)
		for shown, next := range all {
			for _, to := range next {
				after[to] += states[shown]
			}
		}
		counts, states = append(counts, after[len(all)]), after
	}
	return counts
}

// teamHas plays for all players of a word's team, one by one.
func teamHas(f int, word []int, throws []int) int {
	type player struct{ has, won int }
	var team []player
	for _, face := range throws[:min(foundAt(word, throws), len(throws))] {
		team = append(team, player{1, 0})
		for i, p := range team {
			team[i] = player{}
			if p.has > 0 && word[p.won] == face {
				team[i] = player{p.has * f, p.won + 1}
			}
		}
	}
	sum := 0
	for _, p := range team {
		sum += p.has
	}
	return sum
}

// race tells which one of two words is found first: its states are how much of each word the last
// throws show.
type race struct {
	a, b   finder
	states [][2]int
}

// raceOf returns the race of two words with all states to which throws lead.
func raceOf(f int, a []int, b []int) race {
	r := race{finderOf(f, a), finderOf(f, b), [][2]int{{0, 0}}}
	for i := 0; i < len(r.states); i++ {
		for face := range f {
			if next := r.after(r.states[i], face); !r.isOver(next) && !slices.Contains(r.states, next) {
				r.states = append(r.states, next)
			}
		}
	}
	return r
}

func (r race) after(state [2]int, face int) [2]int {
	return [2]int{r.a[state[0]][face], r.b[state[1]][face]}
}

func (r race) isOver(state [2]int) bool {
	return state[0] == len(r.a) || state[1] == len(r.b)
}

// chance returns the chance that the first word is found first: that of each state is the mean over
// the states behind a throw.
func (r race) chance(f int) *big.Rat {
	var rows [][]*big.Rat
	for i, state := range r.states {
		row := make([]*big.Rat, len(r.states)+1)
		for k := range row {
			row[k] = rat(0, 1)
		}
		row[i].Add(row[i], rat(f, 1))
		for face := range f {
			next := r.after(state, face)
			switch {
			case next[0] == len(r.a):
				row[len(r.states)].Add(row[len(r.states)], rat(1, 1))
			case !r.isOver(next):
				k := slices.Index(r.states, next)
				row[k].Sub(row[k], rat(1, 1))
			}
		}
		rows = append(rows, row)
	}
	return firstOf(rows)
}

// firstOf solves as many equations as there are numbers, and returns the first one of these.
func firstOf(rows [][]*big.Rat) *big.Rat {
	for i := len(rows) - 1; i >= 0; i-- {
		for k := i; rows[i][i].Sign() == 0; k-- {
			rows[i], rows[k] = rows[k], rows[i]
		}
		for k := range i {
			factor := new(big.Rat).Quo(rows[k][i], rows[i][i])
			if factor.Sign() == 0 {
				continue
			}
			for n := range rows[k] {
				rows[k][n].Sub(rows[k][n], new(big.Rat).Mul(factor, rows[i][n]))
			}
		}
	}
	return new(big.Rat).Quo(rows[0][len(rows)], rows[0][0])
}

// countOrders returns for each r from 0 to n the number of orders of n cards of which just r are
// marked; whether one is may depend on the cards before it, a set of bits.
func countOrders(n int, isMarked func(before int, place int, card int) bool) []int {
	counts := map[int][]int{0: append([]int{1}, make([]int, n)...)}
	for place := range n {
		next := map[int][]int{}
		for before, marked := range counts {
			for card := range n {
				if before>>card&1 == 1 {
					continue
				}
				behind := before | 1<<card
				if next[behind] == nil {
					next[behind] = make([]int, n+1)
				}
				for r, count := range marked {
					if isMarked(before, place, card) {
						r++
					}
					if count > 0 {
						next[behind][r] += count
					}
				}
			}
		}
		counts = next
	}
	return counts[1<<n-1]
}

// isRecord reports whether no card before this one is greater.
func isRecord(before int, place int, card int) bool { return before>>card == 0 }

// isAtHome reports whether a card is at its own place.
func isAtHome(before int, place int, card int) bool { return card == place }

// harmonic returns the sum of 1 divided by k for all k from 1 to n.
func harmonic(n int) *big.Rat {
	sum := rat(0, 1)
	for k := 1; k <= n; k++ {
		sum.Add(sum, rat(1, k))
	}
	return sum
}

// checkFractions compares a list of results with the numbers that they must be, or that the call
// must fail for if one of these is beyond the limits of fractions.
func checkFractions(t *testing.T, what string, got [][2]int, ok bool, want []*big.Rat) {
	t.Helper()
	if areFractions(want) {
		checkNumbers(t, what, got, ok, want)
	} else if ok || len(got) > 0 {
		t.Errorf("%s = %v, %v; not all of %v are fractions", what, got, ok, want)
	}
}
