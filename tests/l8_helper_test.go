package tests

import (
	"math"
	"math/big"
	"slices"

	"loop.example/g01131/impl"
)

// The limits are written out so that a changed constant is noticed.
const (
	mostArm    = 9
	mostHeight = 4
	mostArmFee = 99
	mostArms   = 3
	mostPlays  = 8
	mostShares = 4
)

// discount is what counts behind one play: a divided by b.
type discount struct{ a, b int }

func allDiscounts() []discount {
	return []discount{{1, 2}, {1, 3}, {2, 3}, {1, 4}, {2, 4}, {3, 4}}
}

func badDiscounts() []discount {
	return []discount{
		{0, 1}, {0, 2}, {0, mostShares}, {1, 1}, {2, 2}, {mostShares, mostShares}, {2, 1}, {mostShares, 3}, {1, mostShares + 1}, {mostShares, mostShares + 1}, {0, 0}, {-1, 2}, {-2, -1}, {1, 0}, {1, -1},
		{1, math.MaxInt}, {math.MinInt, 2}, {math.MinInt, math.MaxInt}, {math.MaxInt, math.MinInt}, {math.MaxInt - 1, math.MaxInt}, {math.MinInt, math.MinInt + 1}, {3, math.MinInt},
	}
}

// counts returns what a number counts behind k plays, times b to the power of plays.
func (d discount) counts(n int, k int, plays int) int {
	return n * pow(d.a, k) * pow(d.b, plays-k)
}

// armOf returns the Arm of a Tree whose nodes with children have fees of a list, over and over.
func armOf(tree impl.Tree, fees ...int) impl.Arm {
	m := impl.Arm{Tree: tree, Fees: make([]int, len(tree.Parents))}
	i := 0
	for x := range m.Fees {
		if tree.Weights[x] == 0 {
			m.Fees[x] = fees[i%len(fees)]
			i++
		}
	}
	return m
}

// lineOf returns the Arm of nodes with one child each.
func lineOf(fees ...int) impl.Arm {
	parents := []int{-1}
	for x := range fees {
		parents = append(parents, x)
	}
	return armOf(treeOf(parents, 1), append(slices.Clone(fees), 0)...)
}

// endAlone returns the Arm that has no node to play at.
func endAlone(weight int) impl.Arm {
	return armOf(treeOf([]int{-1}, weight))
}

// limitShapes returns the lists of parents of trees with a limit of nodes or of depth.
func limitShapes() [][]int {
	return [][]int{
		{-1, 0, 1, 2, 3}, {-1, 0, 0, 0, 0, 0, 0, 0, 0}, {-1, 0, 1, 2, 3, 3, 3, 3, 3}, {-1, 0, 1, 2, 3, 0, 1, 2, 3}, {-1, 0, 0, 1, 1, 2, 2, 3, 3}, {-1, 0, 0, 1, 2, 3, 4, 5, 6}, {-1, 0, 0, 0, 0, 1, 2, 3, 4},
	}
}

// limitArms returns Arms that reach a limit: of nodes, depth, weights or fees.
func limitArms() []impl.Arm {
	arms := []impl.Arm{endAlone(1), endAlone(mostWeight)}
	for _, parents := range limitShapes() {
		for _, fees := range [][]int{{0}, {mostArmFee}, {-mostArmFee}, {mostArmFee, -mostArmFee}, {-mostArmFee, mostArmFee}, {0, 0, 0, mostArmFee}, {7, 31, -8, 50}} {
			arms = append(arms, armOf(treeOf(parents, mostWeight), fees...), armOf(treeOf(parents, 1, 19, mostWeight), fees...))
		}
	}
	return arms
}

// smallArms returns the Arms of all trees of few nodes, with fees of some kinds.
func smallArms(most int) []impl.Arm {
	var arms []impl.Arm
	for size := 1; size <= most; size++ {
		for _, parents := range shapes(size) {
			for _, fees := range [][]int{{0}, {3}, {-2}, {1, 4, 9}, {-1, 2, 0, 5}, {6, -6, 2}, {-9, -4, -2}, {0, 8}} {
				arms = append(arms, armOf(treeOf(parents, 1), fees...), armOf(treeOf(parents, 3, 1, 2), fees...))
			}
		}
	}
	return slices.DeleteFunc(arms, func(m impl.Arm) bool { return heightOf(m) > mostHeight })
}

func heightOf(m impl.Arm) int {
	height := 0
	for x := range m.Tree.Parents {
		height = max(height, depthOf(m.Tree, x))
	}
	return height
}

// rolledArm returns an Arm of at most size nodes and of at most a height.
func rolledArm(rolls *dice, size int, height int, fee int) impl.Arm {
	parents, depths := []int{-1}, []int{0}
	for range size - 1 {
		parent := rolls.below(len(parents))
		if depths[parent] < height {
			parents, depths = append(parents, parent), append(depths, depths[parent]+1)
		}
	}
	m := armOf(treeOf(parents, 1), 0)
	for x, weight := range m.Tree.Weights {
		if weight > 0 {
			m.Tree.Weights[x] = rolls.between(1, mostWeight)
		} else {
			m.Fees[x] = rolls.between(-fee, fee)
		}
	}
	return m
}

func rolledArms(rolls *dice, number int) []impl.Arm {
	var arms []impl.Arm
	for range number {
		arms = append(arms, rolledArm(rolls, rolls.between(1, mostArm), rolls.between(0, mostHeight), []int{2, 9, mostArmFee}[rolls.below(3)]))
	}
	return arms
}

func someArms() []impl.Arm {
	return slices.Concat(limitArms(), smallArms(4), rolledArms(&dice{8}, 1000))
}

// badArms returns Arms that are not valid, each of them for one reason.
func badArms() []impl.Arm {
	var arms []impl.Arm
	for _, tree := range badTrees() {
		arms = append(arms, impl.Arm{Tree: tree, Fees: make([]int, len(tree.Parents))})
	}
	for _, parents := range [][]int{
		{-1, 0, 0, 0, 0, 0, 0, 0, 0, 0}, {-1, 0, 1, 2, 3, 0, 1, 2, 3, 3}, {-1, 0, 1, 2, 3, 4}, {-1, 0, 0, 2, 3, 4, 5}, limitTrees()[2].Parents, limitTrees()[4].Parents,
	} {
		arms = append(arms, armOf(treeOf(parents, 1), 0), armOf(treeOf(parents, 1), 5))
	}
	for _, m := range []impl.Arm{endAlone(1), lineOf(0, 0, 0, 0), armOf(treeOf([]int{-1, 0, 0, 1, 1}, 2, 1), 3, -3)} {
		for _, fees := range [][]int{nil, {}, m.Fees[1:], append(slices.Clone(m.Fees), 0), make([]int, 1<<20)} {
			if len(fees) != len(m.Fees) {
				arms = append(arms, impl.Arm{Tree: m.Tree, Fees: fees})
			}
		}
		for x := range m.Fees {
			for _, fee := range []int{1, -1, mostArmFee, -mostArmFee, mostArmFee + 1, -mostArmFee - 1, math.MaxInt, math.MinInt} {
				if m.Tree.Weights[x] == 0 && isIn(fee, -mostArmFee, mostArmFee) {
					continue
				}
				fees := slices.Clone(m.Fees)
				fees[x] = fee
				arms = append(arms, impl.Arm{Tree: m.Tree, Fees: fees})
			}
		}
	}
	return append(arms, impl.Arm{Fees: []int{0}})
}

// setsFrom returns all sets of x and of nodes below it that have, with each other node, its
// parent, and no ends.
func setsFrom(t impl.Tree, x int) [][]int {
	if t.Weights[x] > 0 {
		return nil
	}
	sets := [][]int{{x}}
	for _, child := range childrenOf(t, x) {
		for _, set := range sets {
			for _, more := range setsFrom(t, child) {
				sets = append(sets, append(slices.Clone(set), more...))
			}
		}
	}
	return sets
}

// playedIn returns the means of what is paid from x on, and of how often, each as it counts, over
// the ways to all ends, with each fee less by a number.
func (d discount) playedIn(m impl.Arm, x int, set []int, less int) (*big.Rat, *big.Rat) {
	gain, time, height := 0, 0, heightOf(m)
	for _, end := range leaves(m.Tree) {
		if !isAtOrBelow(m.Tree, end, x) {
			continue
		}
		for k, y := range wayTo(m.Tree, end)[depthOf(m.Tree, x):] {
			if !slices.Contains(set, y) {
				break
			}
			gain += d.counts(m.Tree.Weights[end]*(m.Fees[y]-less), k, height)
			time += d.counts(m.Tree.Weights[end], k, height)
		}
	}
	scale := weightBelow(m.Tree, x) * pow(d.b, height)
	return rat(gain, scale), rat(time, scale)
}

// indexFrom returns the greatest quotient of gain and time of all sets from x on, 0 for ends.
func (d discount) indexFrom(m impl.Arm, x int) *big.Rat {
	var greatest *big.Rat
	for _, set := range setsFrom(m.Tree, x) {
		gain, time := d.playedIn(m, x, set, 0)
		quotient := gain.Quo(gain, time)
		if greatest == nil || quotient.Cmp(greatest) > 0 {
			greatest = quotient
		}
	}
	if greatest == nil {
		return rat(0, 1)
	}
	return greatest
}

func (d discount) indicesOf(m impl.Arm) []*big.Rat {
	var indices []*big.Rat
	for x := range m.Fees {
		indices = append(indices, d.indexFrom(m, x))
	}
	return indices
}

// chargesOf returns the least index on the way to each node with children, and 0 for ends.
func chargesOf(m impl.Arm, indices []*big.Rat) []*big.Rat {
	var charges []*big.Rat
	for x := range m.Fees {
		way := wayTo(m.Tree, x)
		if m.Tree.Weights[x] > 0 {
			way = []int{x}
		}
		least := slices.MinFunc(way, func(y int, z int) int { return indices[y].Cmp(indices[z]) })
		charges = append(charges, indices[least])
	}
	return charges
}

// playsOf returns the sum of the greatest depths of Arms.
func playsOf(arms []impl.Arm) int {
	plays := 0
	for _, m := range arms {
		plays += heightOf(m)
	}
	return plays
}

// rolledBandit returns Arms that can be played together.
func rolledBandit(rolls *dice, size int) []impl.Arm {
	var arms []impl.Arm
	for range size {
		height := min(mostHeight, mostPlays-playsOf(arms))
		arms = append(arms, rolledArm(rolls, rolls.between(1, mostArm), rolls.between(0, height), []int{2, 9, mostArmFee}[rolls.below(3)]))
	}
	return arms
}

// knownBandits returns lists of Arms with the same indices, the same fees, or limits of plays.
func knownBandits() [][]impl.Arm {
	end, coin := endAlone(mostWeight), armOf(treeOf([]int{-1, 0, 0, 1, 1}, 2, 1), 0, 8)
	return [][]impl.Arm{
		nil, {}, {end}, {end, end, end}, {end, lineOf(3), end}, {lineOf(0)}, {lineOf(-1)}, {lineOf(0), lineOf(-4, 9), end},
		{lineOf(2, 6), lineOf(3)}, {lineOf(3), lineOf(2, 6)}, {lineOf(3), lineOf(3, 6)}, {lineOf(3, 6), lineOf(3)}, {lineOf(5, 5), lineOf(5), lineOf(5, 5, 5)}, {lineOf(0, 7), lineOf(0, 0, 20), lineOf(0)},
		{lineOf(99, 99, 99, 99), lineOf(-99, 99, -99, 99)}, {lineOf(99, 99, 99, 99), lineOf(99, 99, 99, 99), end}, {end, lineOf(-99, -99, -99, -99), lineOf(1, 2, 3, 4)}, {lineOf(-99, 99, 99, 99), lineOf(1, 0, 3), lineOf(50)},
		{coin, coin, coin}, {coin, lineOf(2), coin}, {lineOf(4), coin, lineOf(4)}, {armOf(treeOf(limitShapes()[2], mostWeight), 9, 3, -1, 60), armOf(treeOf(limitShapes()[3], mostWeight), 1, 2, 3, 4), end},
	}
}

// someBandits returns lists of Arms that can be played together.
func someBandits() [][]impl.Arm {
	lists := knownBandits()
	small := smallArms(3)
	for i, m := range small {
		lists = append(lists, []impl.Arm{m}, []impl.Arm{m, small[i*7%len(small)]}, []impl.Arm{small[i*5%len(small)], m, small[i*3%len(small)]})
	}
	for _, m := range limitArms() {
		lists = append(lists, []impl.Arm{m}, []impl.Arm{lineOf(20, -3, 45), m})
	}
	rolls := &dice{18}
	for i := range 1000 {
		lists = append(lists, rolledBandit(rolls, i%(mostArms+1)))
	}
	return lists
}

// badBandits returns lists of Arms that cannot be played together, by one of them, by their number,
// or by their plays.
func badBandits() [][]impl.Arm {
	end, four, three, wide := endAlone(1), lineOf(1, 2, 3, 4), lineOf(1, 2, 3), armOf(treeOf(limitShapes()[3], 1), 5)
	lists := [][]impl.Arm{
		{end, end, end, end}, slices.Repeat([]impl.Arm{end}, 1<<12), {four, wide, lineOf(1)}, {lineOf(1), four, four}, {wide, lineOf(1), wide}, {three, three, three}, {four, three, lineOf(1, 2)}, {wide, wide, wide},
	}
	for _, bad := range badArms() {
		lists = append(lists, []impl.Arm{bad}, []impl.Arm{end, bad}, []impl.Arm{bad, three}, []impl.Arm{three, three, bad})
	}
	return lists
}

// scaleOf multiplies the sums of the roots and b for each play.
func (d discount) scaleOf(arms []impl.Arm) int {
	scale := pow(d.b, playsOf(arms))
	for _, m := range arms {
		scale *= weightBelow(m.Tree, 0)
	}
	return scale
}

// runs calls visit with each choice of the ways that Arms go, and the product of the weights of
// the ends to which they lead.
func runs(arms []impl.Arm, visit func(ways [][]int, weight int)) {
	ways := make([][]int, len(arms))
	var run func(i int, weight int)
	run = func(i int, weight int) {
		if i == len(arms) {
			visit(ways, weight)
			return
		}
		for _, end := range leaves(arms[i].Tree) {
			ways[i] = wayTo(arms[i].Tree, end)
			run(i+1, weight*arms[i].Tree.Weights[end])
		}
	}
	run(0, 1)
}

// valueOf returns the value of a rule, which tells by the nodes of Arms which of them is played
// next, or -1 to end.
func (d discount) valueOf(arms []impl.Arm, rule func(at []int) int) int {
	value, plays := 0, playsOf(arms)
	runs(arms, func(ways [][]int, weight int) {
		steps, at := make([]int, len(arms)), make([]int, len(arms))
		for k := 0; ; k++ {
			place := rule(at)
			if place < 0 {
				return
			}
			value += d.counts(weight*arms[place].Fees[at[place]], k, plays)
			steps[place]++
			at[place] = ways[place][steps[place]]
		}
	})
	return value
}

// paidAt returns the part of a value that is had by playing one of the Arms at their nodes, behind
// k plays.
func (d discount) paidAt(arms []impl.Arm, at []int, place int, k int) int {
	weight := 1
	for i, m := range arms {
		weight *= weightBelow(m.Tree, at[i])
	}
	return d.counts(weight*arms[place].Fees[at[place]], k, playsOf(arms))
}

// moved calls visit with the nodes of Arms for each node to which the play of one of them leads.
func moved(arms []impl.Arm, at []int, place int, visit func(next []int)) {
	for _, child := range childrenOf(arms[place].Tree, at[place]) {
		next := slices.Clone(at)
		next[place] = child
		visit(next)
	}
}

// bestBehind returns the greatest part of a value that is had by playing on behind k plays.
func (d discount) bestBehind(arms []impl.Arm, at []int, k int) int {
	best := 0
	for place := range arms {
		if value, ok := d.bestBy(arms, at, place, k); ok {
			best = max(best, value)
		}
	}
	return best
}

// bestBy returns the same if one of the Arms is played next; it fails if this cannot be.
func (d discount) bestBy(arms []impl.Arm, at []int, place int, k int) (int, bool) {
	if arms[place].Tree.Weights[at[place]] > 0 {
		return 0, false
	}
	value := d.paidAt(arms, at, place, k)
	moved(arms, at, place, func(next []int) { value += d.bestBehind(arms, next, k+1) })
	return value, true
}
