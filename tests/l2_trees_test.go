package tests

import (
	"fmt"
	"math"
	"slices"
	"strings"
	"testing"

	"loop.example/g01131/impl"
)

// badTrees returns Trees that are not valid, each of them for one reason.
func badTrees() []impl.Tree {
	long := treeOf(append(limitTrees()[4].Parents, 0), 1)
	return []impl.Tree{
		{}, {Parents: []int{}, Weights: []int{}}, {Parents: []int{-1}}, {Weights: []int{1}}, long,
		{Parents: []int{-1}, Weights: []int{1, 1}}, {Parents: []int{-1, 0}, Weights: []int{1}},
		{Parents: []int{0}, Weights: []int{1}}, {Parents: []int{-2}, Weights: []int{1}}, {Parents: []int{1, 0}, Weights: []int{0, 1}},
		{Parents: []int{-1, -1}, Weights: []int{1, 1}}, {Parents: []int{-1, 1}, Weights: []int{1, 0}}, {Parents: []int{-1, 1}, Weights: []int{1, 1}},
		{Parents: []int{-1, 2, 0}, Weights: []int{0, 1, 1}}, {Parents: []int{-1, 2, 0}, Weights: []int{0, 1, 0}},
		{Parents: []int{-1, -2}, Weights: []int{1, 1}}, {Parents: []int{-1, 0, 3}, Weights: []int{0, 1, 1}},
		{Parents: []int{-1, math.MaxInt}, Weights: []int{1, 1}}, {Parents: []int{-1, math.MinInt}, Weights: []int{1, 1}},
		{Parents: []int{math.MinInt}, Weights: []int{1}}, {Parents: []int{math.MaxInt}, Weights: []int{1}},
		{Parents: []int{-1}, Weights: []int{0}}, {Parents: []int{-1}, Weights: []int{-1}}, {Parents: []int{-1}, Weights: []int{mostWeight + 1}},
		{Parents: []int{-1}, Weights: []int{math.MinInt}}, {Parents: []int{-1}, Weights: []int{math.MaxInt}},
		{Parents: []int{-1, 0}, Weights: []int{1, 1}}, {Parents: []int{-1, 0}, Weights: []int{-1, 1}}, {Parents: []int{-1, 0}, Weights: []int{0, 0}},
		{Parents: []int{-1, 0, 1}, Weights: []int{0, 1, 1}}, {Parents: []int{-1, 0, 0}, Weights: []int{0, 1, 0}},
		{Parents: []int{-1, 0, 0}, Weights: []int{0, mostWeight + 1, 1}}, {Parents: []int{-1, 0, 0}, Weights: []int{2, 1, 1}},
		{Parents: make([]int, 1<<20), Weights: make([]int, 1<<20)},
	}
}

func TestPromise2IsTree(t *testing.T) {
	for _, tree := range someTrees() {
		if !impl.IsTree(tree) {
			t.Errorf("IsTree(%v) is false", tree)
		}
	}
	for i, tree := range badTrees() {
		if impl.IsTree(tree) {
			t.Errorf("IsTree of the bad Tree %d is true", i)
		}
	}
}

func TestPromise2EndsChildrenWaysAndDepths(t *testing.T) {
	for _, tree := range someTrees() {
		if ends, ok := impl.EndsOf(tree); !ok || !slices.Equal(ends, leaves(tree)) {
			t.Errorf("EndsOf(%v) = %v, %v", tree, ends, ok)
		}
		depths, ok := impl.DepthsOf(tree)
		if !ok || len(depths) != len(tree.Parents) {
			t.Fatalf("DepthsOf(%v) = %v, %v", tree, depths, ok)
		}
		for x := range tree.Parents {
			if depths[x] != depthOf(tree, x) {
				t.Errorf("DepthsOf(%v)[%d] = %d", tree, x, depths[x])
			}
			var children, way []int
			for y, parent := range tree.Parents {
				if parent == x {
					children = append(children, y)
				}
				if isAtOrBelow(tree, x, y) {
					way = append(way, y)
				}
			}
			if got, ok := impl.ChildrenOf(tree, x); !ok || !slices.Equal(got, children) {
				t.Errorf("ChildrenOf(%v, %d) = %v, %v", tree, x, got, ok)
			}
			if got, ok := impl.WayTo(tree, x); !ok || !slices.Equal(got, way) {
				t.Errorf("WayTo(%v, %d) = %v, %v", tree, x, got, ok)
			}
		}
	}
}

func TestPromise2SumsAndChances(t *testing.T) {
	for _, tree := range someTrees() {
		sums, ok := impl.SumsOf(tree)
		if !ok || len(sums) != len(tree.Parents) {
			t.Fatalf("SumsOf(%v) = %v, %v", tree, sums, ok)
		}
		for x := range sums {
			if sums[x] != weightBelow(tree, x) {
				t.Errorf("SumsOf(%v)[%d] = %d", tree, x, sums[x])
			}
			chance, ok := impl.ChanceOf(tree, x)
			checkFraction(t, fmt.Sprint("ChanceOf", tree, x), chance, ok, rat(weightBelow(tree, x), weightBelow(tree, 0)))
		}
	}
}

func TestPromise2OtherNodes(t *testing.T) {
	for _, tree := range limitTrees() {
		size := len(tree.Parents)
		for _, x := range []int{-1, -2, size, size + 1, mostNodes, math.MaxInt, math.MinInt} {
			children, ok := impl.ChildrenOf(tree, x)
			way, okWay := impl.WayTo(tree, x)
			chance, okChance := impl.ChanceOf(tree, x)
			if ok || okWay || okChance || len(children)+len(way) > 0 || chance != [2]int{} {
				t.Errorf("node %d of %v: %v %v, %v %v, %v %v", x, tree, children, ok, way, okWay, chance, okChance)
			}
		}
	}
}

func TestPromise2CutAt(t *testing.T) {
	for _, tree := range someTrees() {
		for _, d := range []int{0, 1, 2, 3, 4, mostNodes - 2, mostNodes - 1, mostNodes, math.MaxInt} {
			var want []int
			whole := rat(0, 1)
			for x := range tree.Parents {
				if depthOf(tree, x) == d || depthOf(tree, x) < d && slices.Contains(leaves(tree), x) {
					want = append(want, x)
					chance, _ := impl.ChanceOf(tree, x)
					whole.Add(whole, exact(chance))
				}
			}
			if cut, ok := impl.CutAt(tree, d); !ok || !slices.Equal(cut, want) {
				t.Errorf("CutAt(%v, %d) = %v, %v", tree, d, cut, ok)
			}
			if whole.Cmp(rat(1, 1)) != 0 {
				t.Errorf("the chances of the cut at %d of %v have the sum %v", d, tree, whole)
			}
		}
		for _, d := range []int{-1, -2, math.MinInt} {
			if cut, ok := impl.CutAt(tree, d); ok || len(cut) > 0 {
				t.Errorf("CutAt(%v, %d) = %v, %v", tree, d, cut, ok)
			}
		}
	}
}

// prunedTree builds the pruned Tree by counting, for each node that stays, those before it.
func prunedTree(t impl.Tree, d int) impl.Tree {
	number := func(x int) int {
		n := 0
		for y := range x {
			if depthOf(t, y) <= d {
				n++
			}
		}
		return n
	}
	var pruned impl.Tree
	for x, parent := range t.Parents {
		if depthOf(t, x) > d {
			continue
		}
		weight := 0
		if depthOf(t, x) == d || slices.Contains(leaves(t), x) {
			weight = weightBelow(t, x)
		}
		if x > 0 {
			parent = number(parent)
		}
		pruned.Parents = append(pruned.Parents, parent)
		pruned.Weights = append(pruned.Weights, weight)
	}
	return pruned
}

func TestPromise2PruneTree(t *testing.T) {
	for _, tree := range someTrees() {
		for _, d := range []int{0, 1, 2, 3, 4, mostNodes - 2, mostNodes - 1, mostNodes, math.MaxInt} {
			want := prunedTree(tree, d)
			// The sums of ends that are new may be too great for a Weight.
			fits := slices.Max(want.Weights) <= mostWeight
			got, ok := impl.PruneTree(tree, d)
			if ok != fits || !ok && (got.Parents != nil || got.Weights != nil) {
				t.Errorf("PruneTree(%v, %d) = %v, %v", tree, d, got, ok)
			}
			if fits && (!slices.Equal(got.Parents, want.Parents) || !slices.Equal(got.Weights, want.Weights)) {
				t.Errorf("PruneTree(%v, %d) = %v", tree, d, got)
			}
		}
		for _, d := range []int{-1, -2, math.MinInt} {
			if got, ok := impl.PruneTree(tree, d); ok || len(got.Parents)+len(got.Weights) > 0 {
				t.Errorf("PruneTree(%v, %d) = %v, %v", tree, d, got, ok)
			}
		}
	}
}

func TestPromise2PruneTreeAtTheGreatestWeight(t *testing.T) {
	for _, x := range []struct {
		left, right, other int
		ok                 bool
	}{
		{1, 19, 1, true}, {10, 10, 20, true}, {1, 20, 1, false}, {11, 10, 20, false}, {20, 20, 20, false},
	} {
		tree := impl.Tree{Parents: []int{-1, 0, 0, 1, 1}, Weights: []int{0, 0, x.other, x.left, x.right}}
		got, ok := impl.PruneTree(tree, 1)
		if ok != x.ok || ok && !slices.Equal(got.Weights, []int{0, x.left + x.right, x.other}) {
			t.Errorf("PruneTree(%v, 1) = %v, %v", tree, got, ok)
		}
	}
}

// textOf writes a Tree in another way than the program does.
func textOf(t impl.Tree) string {
	var nodes []string
	for x := range t.Parents {
		nodes = append(nodes, fmt.Sprintf("%d:%d", t.Parents[x], t.Weights[x]))
	}
	return strings.Join(nodes, " ")
}

func TestPromise2TreeTextAndParseTree(t *testing.T) {
	for _, tree := range someTrees() {
		text, ok := impl.TreeText(tree)
		if !ok || text != textOf(tree) {
			t.Errorf("TreeText(%v) = %q, %v", tree, text, ok)
		}
		back, ok := impl.ParseTree(text)
		if !ok || !slices.Equal(back.Parents, tree.Parents) || !slices.Equal(back.Weights, tree.Weights) {
			t.Errorf("ParseTree(%q) = %v, %v", text, back, ok)
		}
	}
	for i, tree := range badTrees() {
		if text, ok := impl.TreeText(tree); ok || text != "" {
			t.Errorf("TreeText of the bad Tree %d = %q, %v", i, text, ok)
		}
		if len(tree.Parents) == len(tree.Weights) {
			checkNoTree(t, textOf(tree))
		}
	}
}

func checkNoTree(t *testing.T, text string) {
	t.Helper()
	if got, ok := impl.ParseTree(text); ok || got.Parents != nil || got.Weights != nil {
		t.Errorf("ParseTree(%.40q) = %v, %v", text, got, ok)
	}
}

func TestPromise2ParseTreeOfOtherTexts(t *testing.T) {
	for _, text := range []string{
		"", " ", ":", "-1", "-1:", ":1", "-1:1 ", " -1:1", "-1:1\n", "-1 :1", "-1: 1", "-1:1:", "-1:1:1", "-1::1", "-01:1", "-1:01", "-1:+1",
		"+0:1", "-1:-0", "-1:1.0", "-1:0x1", "-1:1a", "-1:0  0:1", "-1:0,0:1", "-1:0\t0:1", "-1:0 0:1 ", "-1:0 -0:1", "-1:0 00:1", "-1:0 0;1",
		"-1:18446744073709551617", "-18446744073709551617:1", "-1:1000001", "-1:0 0:1\x00", "-1:１",
		strings.Repeat("0:1 ", 1<<18), strings.Repeat(" ", bound), strings.Repeat(":", 1<<20), "-1:" + strings.Repeat("0", 1<<20) + "1",
	} {
		checkNoTree(t, text)
	}
}

func TestPromise2ParseTreeReadsNothingElse(t *testing.T) {
	texts := shortTexts("-01: ", 6)
	for _, tree := range someTrees()[:40] {
		text := textOf(tree)
		for i := range len(text) {
			for _, c := range []byte("-0129: \x00") {
				texts = append(texts, text[:i]+string(c)+text[i+1:], text[:i]+string(c)+text[i:])
			}
			texts = append(texts, text[:i]+text[i+1:])
		}
	}
	for _, text := range texts {
		tree, ok := impl.ParseTree(text)
		if ok && (textOf(tree) != text || !impl.IsTree(tree)) {
			t.Errorf("ParseTree(%q) = %v", text, tree)
		}
		if !ok && (tree.Parents != nil || tree.Weights != nil) {
			t.Errorf("ParseTree(%q) fails with %v", text, tree)
		}
	}
}
