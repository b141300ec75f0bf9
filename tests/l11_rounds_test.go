package tests

import (
	"math"
	"slices"
	"testing"

	"loop.example/g01131/impl"
)

func TestPromise11UseTables(t *testing.T) {
	for _, h := range hoardsOf(manyUses()) {
		want := h.table(mostRounds)
		for _, rounds := range []int{0, 1, 3, mostRounds} {
			checkTable(t, want[:rounds+1])(impl.UseTable(h.u, h.w, h.l, rounds))
		}
	}
}

// meanOf plays rounds by stakes for each number of rounds left and each purse, and returns the mean of
// the use behind them, times the weights of all ways.
func (h hoard) meanOf(stakes []int, rounds int, coins int) int {
	if rounds == 0 {
		return h.u[coins]
	}
	stake := stakes[(rounds-1)*len(h.u)+coins]
	return h.w*h.meanOf(stakes, rounds-1, coins+stake) + h.l*h.meanOf(stakes, rounds-1, coins-stake)
}

// eachStakes calls visit with all stakes for each number of rounds left and each purse.
func (h hoard) eachStakes(rounds int, visit func(stakes []int)) {
	stakes := make([]int, rounds*len(h.u))
	var choose func(i int)
	choose = func(i int) {
		if i == len(stakes) {
			visit(stakes)
			return
		}
		for stake := range h.mostStake(i%len(h.u)) + 1 {
			stakes[i] = stake
			choose(i + 1)
		}
	}
	choose(0)
}

// No way to stake has a greater mean than the worth, and one has just this for all purses.
func TestPromise11WorthsOfAllStakes(t *testing.T) {
	rolls := &dice{15}
	for top, most := range []int{3, 3, 3, 3, 3, 2} {
		var uses [][]int
		for range 2 {
			uses = append(uses, rolledUse(rolls, top+1, 9), rolledUse(rolls, top+1, mostUse))
		}
		for _, h := range hoardsOf(append(uses, facesOf(top+1))) {
			table, ok := impl.UseTable(h.u, h.w, h.l, most)
			plan, again := impl.StakePlan(h.u, h.w, h.l, most)
			if !ok || !again {
				t.Fatalf("no table or plan of %v", h)
			}
			h.eachStakes(most, func(stakes []int) {
				isPlan := slices.Equal(stakes, slices.Concat(plan...))
				for coins := range h.u {
					if mean := h.meanOf(stakes, most, coins); mean > table[most][coins] || isPlan && mean != table[most][coins] {
						t.Fatalf("with the stakes %v of %v %d has %d, worth %d", stakes, h, coins, mean, table[most][coins])
					}
				}
			})
		}
	}
}

func TestPromise11UseStakes(t *testing.T) {
	several := 0
	for _, h := range fewHoards() {
		table := h.table(mostRounds)
		plan := h.plan(table)
		for r := 1; r <= mostRounds; r++ {
			for coins := range h.u {
				stake := plan[r-1][coins]
				checkCount(t, stake)(impl.UseStake(h.u, h.w, h.l, r, coins))
				if stake < h.mostStake(coins) && h.wager().afterStake(table[r-1], coins, stake+1) == table[r][coins] {
					several++
				}
			}
		}
	}
	if several == 0 {
		t.Error("never are several stakes best")
	}
}

func TestPromise11StakePlans(t *testing.T) {
	for _, h := range hoardsOf(manyUses()) {
		plan := h.plan(h.table(mostRounds))
		for _, rounds := range []int{0, 1, 2, mostRounds} {
			checkTable(t, plan[:rounds])(impl.StakePlan(h.u, h.w, h.l, rounds))
		}
	}
}

func TestPromise11StakeLosses(t *testing.T) {
	losses := 0
	for i, h := range fewHoards() {
		table := h.table(mostRounds)
		r := 1 + i%mostRounds
		for coins := range h.u {
			best, _ := impl.UseStake(h.u, h.w, h.l, r, coins)
			for stake := range h.mostStake(coins) + 1 {
				loss := table[r][coins] - h.wager().afterStake(table[r-1], coins, stake)
				checkCount(t, loss)(impl.StakeLoss(h.u, h.w, h.l, r, coins, stake))
				if loss < 0 || stake == best && loss != 0 || stake < best && loss == 0 {
					t.Errorf("the loss of %d of %d with %v is %d, the best stake %d", stake, coins, h, loss, best)
				}
				losses += loss
			}
		}
	}
	if losses == 0 {
		t.Error("no stake ever makes a loss")
	}
}

func TestPromise11KnownRounds(t *testing.T) {
	u := []int{0, 1, 4, 9}
	checkTable(t, [][]int{{0, 4, 6, 7}, {0, 8, 12, 14}})(impl.UseTable([]int{0, 4, 6, 7}, 1, 1, 1))
	checkTable(t, [][]int{u, {0, 4, 10, 18}, {0, 10, 22, 36}})(impl.UseTable(u, 1, 1, 2))
	checkTable(t, [][]int{{0, 1, 1, 0}, {0, 1, 1, 0}})(impl.StakePlan(u, 1, 1, 2))
	checkCount(t, 1)(impl.UseStake(u, 1, 1, 1, 1))
	checkCount(t, 2)(impl.StakeLoss(u, 1, 1, 1, 1, 0))
	checkCount(t, 0)(impl.StakeLoss(u, 1, 1, 1, 1, 1))
	checkCount(t, 2)(impl.StakeLoss(u, 1, 1, 2, 1, 0))
	// The weights are those of a win and of a loss, in this order.
	checkTable(t, [][]int{{0, 1, 3}, {0, 9, 9}})(impl.UseTable([]int{0, 1, 3}, 3, 0, 1))
	checkTable(t, [][]int{{0, 1, 3}, {0, 6, 9}})(impl.UseTable([]int{0, 1, 3}, 2, 1, 1))
	checkTable(t, [][]int{{0, 1, 3}, {0, 3, 9}})(impl.UseTable([]int{0, 1, 3}, 1, 2, 1))
	// More than the best stake may be just as good, and nothing is staked if it is.
	checkTable(t, [][]int{{0, 0, 0, 0, 0}})(impl.StakePlan([]int{0, 1, 2, 3, 4}, 1, 1, 1))
	checkTable(t, [][]int{{0, 1, 2, 1, 0}})(impl.StakePlan([]int{0, 1, 2, 3, 4}, 2, 1, 1))
	checkTable(t, [][]int{{0, 1, 0, 0, 0}})(impl.StakePlan([]int{0, 0, 5, 5, 5}, 1, 0, 1))
}

// No loss is possible, or no win: then all that may be staked is had behind the round.
func TestPromise11RoundsWithAWeightOfZero(t *testing.T) {
	for weight := 1; weight <= mostLuck; weight++ {
		for _, x := range []struct {
			u             []int
			won, lost     []int
			first, second []int
		}{
			{[]int{0, 1, 2, 3, 4}, []int{0, 2, 4, 4, 4}, []int{0, 1, 2, 3, 4}, []int{0, 1, 2, 1, 0}, []int{0, 0, 0, 0, 0}},
			// A stake that could not be won is none, even if it never is won.
			{[]int{4, 3, 2, 1, 0}, []int{4, 3, 2, 1, 0}, []int{4, 4, 4, 2, 0}, []int{0, 0, 0, 0, 0}, []int{0, 1, 2, 1, 0}},
			{[]int{5, 0, 0}, []int{5, 0, 0}, []int{5, 5, 0}, []int{0, 0, 0}, []int{0, 1, 0}},
			{[]int{0, 0, 5}, []int{0, 5, 5}, []int{0, 0, 5}, []int{0, 1, 0}, []int{0, 0, 0}},
			{[]int{7}, []int{7}, []int{7}, []int{0}, []int{0}},
			{[]int{2, 9}, []int{2, 9}, []int{2, 9}, []int{0, 0}, []int{0, 0}},
		} {
			checkTable(t, [][]int{x.u, timesList(weight, x.won)})(impl.UseTable(x.u, weight, 0, 1))
			checkTable(t, [][]int{x.u, timesList(weight, x.lost)})(impl.UseTable(x.u, 0, weight, 1))
			checkTable(t, [][]int{x.first})(impl.StakePlan(x.u, weight, 0, 1))
			checkTable(t, [][]int{x.second})(impl.StakePlan(x.u, 0, weight, 1))
		}
	}
}

// timesList returns each number of a list times n.
func timesList(n int, list []int) []int {
	var times []int
	for _, number := range list {
		times = append(times, n*number)
	}
	return times
}

// With the greatest numbers, all worths are the greatest ones.
func TestPromise11TheGreatestRounds(t *testing.T) {
	u := slices.Repeat([]int{mostUse}, mostHoard+1)
	var table [][]int
	for rounds := range mostRounds + 1 {
		table = append(table, timesList(pow(2*mostLuck, rounds), u))
		checkTable(t, table)(impl.UseTable(u, mostLuck, mostLuck, rounds))
		checkTable(t, slices.Repeat([][]int{make([]int, mostHoard+1)}, rounds))(impl.StakePlan(u, mostLuck, mostLuck, rounds))
	}
	if table[mostRounds][0] != 32735232 {
		t.Errorf("the greatest worth is %d", table[mostRounds][0])
	}
	// Four wins make one coin the greatest purse, so that there is time with one round more.
	only := make([]int, mostHoard+1)
	only[mostHoard] = mostUse
	checkCount(t, 1)(impl.UseStake(only, mostLuck, 0, mostRounds-1, 1))
	checkCount(t, 0)(impl.UseStake(only, mostLuck, 0, mostRounds, 1))
	wins, ok := impl.UseTable(only, mostLuck, 0, mostRounds)
	if !ok || !slices.Equal(wins[mostRounds], append([]int{0}, slices.Repeat([]int{mostUse * 1024}, mostHoard)...)) || wins[3][1] != 0 || wins[4][1] != mostUse*256 {
		t.Errorf("with wins alone, purses are worth %v, %v", wins, ok)
	}
}

// Without an advantage nothing is staked for a rising and concave use.
func TestPromise11NothingIsStakedForConcaveUses(t *testing.T) {
	concave, others := 0, 0
	for _, h := range hoardsOf(manyUses()) {
		rising, _ := impl.IsRising(h.u)
		slowing, _ := impl.IsConcave(h.u)
		plan, ok := impl.StakePlan(h.u, h.w, h.l, mostRounds)
		isNone := slices.Max(slices.Concat(plan...)) == 0
		if !ok || len(plan) != mostRounds {
			t.Fatalf("no plan of %v", h)
		}
		if h.w > h.l || !rising || !slowing {
			if !isNone {
				others++
			}
			continue
		}
		concave++
		var want [][]int
		for rounds := range mostRounds + 1 {
			want = append(want, timesList(pow(h.w+h.l, rounds), h.u))
		}
		checkTable(t, want)(impl.UseTable(h.u, h.w, h.l, mostRounds))
		if !isNone {
			t.Errorf("with %v, the plan is %v", h, plan)
		}
	}
	if concave == 0 || others == 0 {
		t.Errorf("%d concave uses without an advantage, %d with stakes", concave, others)
	}
}

func TestPromise11OneMoreRoundIsNoLoss(t *testing.T) {
	more := 0
	for _, h := range fewHoards() {
		table, ok := impl.UseTable(h.u, h.w, h.l, mostRounds)
		for r := 1; r <= mostRounds; r++ {
			for coins, worth := range table[r] {
				if !ok || worth < (h.w+h.l)*table[r-1][coins] {
					t.Errorf("with %v, %d coins are worth %d with %d rounds", h, coins, worth, r)
				}
				if worth > (h.w+h.l)*table[r-1][coins] {
					more++
				}
			}
		}
	}
	if more == 0 {
		t.Error("no round is ever worth more")
	}
}

func TestPromise11NoRounds(t *testing.T) {
	for _, h := range badHoards() {
		for rounds := range 3 {
			checkNoTable(t)(impl.UseTable(h.u, h.w, h.l, rounds))
			checkNoTable(t)(impl.StakePlan(h.u, h.w, h.l, rounds))
			checkNoCount(t)(impl.UseStake(h.u, h.w, h.l, rounds, 0))
			checkNoCount(t)(impl.StakeLoss(h.u, h.w, h.l, rounds, 0, 0))
		}
	}
	for _, h := range fewHoards() {
		for _, rounds := range []int{-1, mostRounds + 1, -mostRounds, math.MaxInt, math.MinInt} {
			checkNoTable(t)(impl.UseTable(h.u, h.w, h.l, rounds))
			checkNoTable(t)(impl.StakePlan(h.u, h.w, h.l, rounds))
		}
		for _, rounds := range []int{-1, 0, mostRounds + 1, math.MaxInt, math.MinInt} {
			checkNoCount(t)(impl.UseStake(h.u, h.w, h.l, rounds, h.top()))
			checkNoCount(t)(impl.StakeLoss(h.u, h.w, h.l, rounds, 0, 0))
		}
	}
}

func TestPromise11NoCoinsAndStakes(t *testing.T) {
	for i, h := range fewHoards() {
		rounds := 1 + i%mostRounds
		for _, coins := range []int{-1, -h.top() - 1, h.top() + 1, mostHoard + 1, math.MaxInt, math.MinInt} {
			checkNoCount(t)(impl.UseStake(h.u, h.w, h.l, rounds, coins))
			for _, stake := range []int{0, 1, -1, coins} {
				checkNoCount(t)(impl.StakeLoss(h.u, h.w, h.l, rounds, coins, stake))
			}
		}
		for coins := range h.u {
			for _, stake := range []int{-1, h.mostStake(coins) + 1, max(coins, h.top()-coins) + 1, math.MaxInt, math.MinInt} {
				checkNoCount(t)(impl.StakeLoss(h.u, h.w, h.l, rounds, coins, stake))
			}
		}
	}
}

// purse is what PurseSpread is called with.
type purse struct{ top, w, l, rounds, coins, most int }

func (p purse) isValid() bool {
	return isIn(p.top, 1, mostHoard) && areLuck(p.w, p.l) && isIn(p.rounds, 0, mostRounds) && isIn(p.coins, 0, p.top) && isIn(p.most, 0, mostHoard)
}

// spread adds the weight of each way to win and to lose all rounds to the purse to which it leads.
func (p purse) spread() []int {
	sums := make([]int, p.top+1)
	for way := range 1 << p.rounds {
		coins, weight := p.coins, 1
		for r := range p.rounds {
			stake := slices.Min([]int{p.most, coins, p.top - coins})
			if way>>r&1 == 1 {
				coins, weight = coins+stake, weight*p.w
			} else {
				coins, weight = coins-stake, weight*p.l
			}
		}
		sums[coins] += weight
	}
	return sums
}

func (p purse) call() ([]int, bool) {
	return impl.PurseSpread(p.top, p.w, p.l, p.rounds, p.coins, p.most)
}

// eachPurse calls visit with all purses of some weights.
func eachPurse(lucks [][2]int, visit func(p purse)) {
	for _, luck := range lucks {
		for top := 1; top <= mostHoard; top++ {
			for rounds := range mostRounds + 1 {
				tuples(facesOf(top+1), 1, func(coins []int) {
					for most := range mostHoard + 1 {
						visit(purse{top, luck[0], luck[1], rounds, coins[0], most})
					}
				})
			}
		}
	}
}

func TestPromise11PurseSpreads(t *testing.T) {
	eachPurse(allLucks(), func(p purse) {
		got, ok := p.call()
		checkList(t, p.spread())(got, ok)
		if sumOf(got) != pow(p.w+p.l, p.rounds) {
			t.Errorf("the spread of %v is %v", p, got)
		}
	})
}

func TestPromise11KnownPurseSpreads(t *testing.T) {
	for _, x := range []struct {
		p    purse
		want []int
	}{
		{purse{3, 1, 1, 1, 1, 1}, []int{1, 0, 1, 0}}, {purse{1, 1, 1, 0, 0, 0}, []int{1, 0}}, {purse{1, 1, 0, mostRounds, 1, mostHoard}, []int{0, 1}}, {purse{4, 3, 1, 2, 2, 2}, []int{4, 0, 0, 0, 12}}, {purse{4, 3, 1, 2, 2, 1}, []int{1, 0, 6, 0, 9}}, {purse{4, 3, 1, 2, 2, 0}, []int{0, 0, 16, 0, 0}}, {purse{5, 2, 1, 2, 2, 3}, []int{3, 0, 0, 2, 0, 4}},
		{purse{mostHoard, mostLuck, 0, mostRounds, 1, mostHoard}, []int{0, 0, 0, 0, 0, 0, 0, 0, 0, 0, 0, 0, 1024}}, {purse{mostHoard, mostLuck, 0, mostRounds, 1, 1}, []int{0, 0, 0, 0, 0, 0, 1024, 0, 0, 0, 0, 0, 0}}, {purse{mostHoard, 0, mostLuck, mostRounds, mostHoard, mostHoard}, []int{0, 0, 0, 0, 0, 0, 0, 0, 0, 0, 0, 0, 1024}}, {purse{mostHoard, mostLuck, mostLuck, mostRounds, 0, mostHoard}, []int{32768, 0, 0, 0, 0, 0, 0, 0, 0, 0, 0, 0, 0}},
	} {
		checkList(t, x.want)(x.p.call())
	}
}

// To stake at most 1 is timid play, and to stake all that is possible is bold play.
func TestPromise11PursesPlayTimidlyOrBoldly(t *testing.T) {
	eachPurse([][2]int{{1, 1}, {1, 3}, {mostLuck, mostLuck}, {3, 2}}, func(p purse) {
		got, _ := p.call()
		switch p.most {
		case 1:
			checkList(t, got)(impl.RuinSteps(p.w, p.l, p.coins, p.top, p.rounds))
		case mostHoard:
			bold, ok := impl.BoldTable(p.w, p.l, p.top, p.rounds)
			if !ok || got[p.top] != bold[p.rounds][p.coins] {
				t.Errorf("the spread of %v is %v, and bold play has %v", p, got, bold)
			}
		}
	})
}

// No purse that is staked like this has a greater mean of a use than it is worth.
func TestPromise11WorthsBoundPurseSpreads(t *testing.T) {
	rolls := &dice{16}
	for top := 1; top <= mostHoard; top++ {
		for _, h := range hoardsOf(usesOf(rolls, top+1)[8:14]) {
			table, ok := impl.UseTable(h.u, h.w, h.l, mostRounds)
			for coins := range h.u {
				for _, most := range []int{0, 1, 2, mostHoard} {
					p := purse{top, h.w, h.l, rolls.between(0, mostRounds), coins, most}
					got, again := p.call()
					if !ok || !again || timesUnits(got, h.u) > table[p.rounds][coins] {
						t.Errorf("the spread of %v is %v, and %v is worth %v", p, got, h, table)
					}
				}
			}
		}
	}
}

func TestPromise11NoPurses(t *testing.T) {
	bad := []purse{{0, 1, 1, 1, 0, 0}, {0, 1, 1, 0, 0, 0}, {1, 1, 1, 1, 2, 0}, {mostHoard, 1, 1, 1, mostHoard + 1, 1}, {mostHoard + 1, 1, 1, 1, mostHoard, 1}, {mostHoard + 1, 1, 1, 1, mostHoard + 1, 1}}
	for _, good := range []purse{{4, 1, 1, 2, 2, 1}, {1, 0, 1, 0, 0, 0}} {
		for _, n := range []int{-1, mostHoard + 1, math.MaxInt, math.MinInt} {
			p := []purse{good, good, good, good}
			p[0].top, p[1].rounds, p[2].coins, p[3].most = n, n, n, n
			bad = append(bad, p...)
		}
	}
	for _, rounds := range []int{mostRounds + 1, mostRounds + 2, -mostRounds} {
		bad = append(bad, purse{4, 1, 1, rounds, 2, 1})
	}
	for _, luck := range badLucks() {
		bad = append(bad, purse{4, luck[0], luck[1], 2, 2, 1}, purse{4, luck[0], luck[1], 0, 0, 0})
	}
	for _, p := range bad {
		if p.isValid() {
			t.Errorf("%v is valid", p)
		}
		checkNoList(t)(p.call())
	}
}
