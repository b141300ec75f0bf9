package tests

import (
	"fmt"
	"math"
	"math/big"
	"slices"
	"testing"

	"loop.example/g01131/impl"
)

// overlapsOf returns all k for which the last k faces of one word are the first k of another one.
func overlapsOf(a []int, b []int) []int {
	overlaps := []int{}
	for k := 1; k <= len(a) && k <= len(b); k++ {
		if ends(a, b[:k]) {
			overlaps = append(overlaps, k)
		}
	}
	return overlaps
}

func TestPromise9Overlaps(t *testing.T) {
	check := func(f int, a []int, b []int) {
		want := overlapsOf(a, b)
		if got, ok := impl.OverlapsOf(f, a, b); !ok || !slices.Equal(got, want) {
			t.Errorf("OverlapsOf(%d, %v, %v) = %v, %v; want %v", f, a, b, got, ok, want)
		}
	}
	eachPair(2, mostWord, check)
	eachPair(3, 3, check)
	eachPair(mostFaces, 2, check)
	rolls := &dice{3}
	for range 4000 {
		f := rolls.between(1, mostFaces)
		check(f, rolledWord(rolls, f, rolls.between(1, mostWord)), rolledWord(rolls, f, rolls.between(1, mostWord)))
	}
}

func TestPromise9KnownOverlaps(t *testing.T) {
	for _, x := range []struct {
		f    int
		a, b []int
		want []int
	}{
		{2, []int{0, 1, 0}, []int{0, 1, 0}, []int{1, 3}}, {1, []int{0, 0, 0}, []int{0, 0, 0}, []int{1, 2, 3}}, {1, []int{0}, []int{0}, []int{1}}, {1, make([]int, mostWord), []int{0, 0}, []int{1, 2}}, {1, []int{0, 0}, make([]int, mostWord), []int{1, 2}},
		{6, []int{5}, []int{5}, []int{1}}, {6, []int{5}, []int{4}, nil}, {2, []int{0, 1}, []int{1, 0}, []int{1}}, {2, []int{1, 0}, []int{0, 0, 1}, []int{1}}, {2, []int{0, 0, 1}, []int{1, 0}, []int{1}}, {2, []int{0, 0}, []int{1, 0}, nil},
		{3, []int{2, 0, 1, 2, 0, 1}, []int{0, 1, 2, 0, 1, 2}, []int{2, 5}}, {3, []int{2, 0, 1}, []int{0, 1, 2, 0, 1, 2}, []int{2}}, {2, []int{0, 1, 0, 0}, []int{0, 0}, []int{1, 2}},
	} {
		checkList(t, x.want)(impl.OverlapsOf(x.f, x.a, x.b))
	}
}

func TestPromise9WordWaits(t *testing.T) {
	eachWord(mostFaces, mostWord, func(f int, word []int) {
		want := finderOf(f, word).wait()
		if got, ok := impl.WordWait(f, word); !ok || rat(got, 1).Cmp(want) != 0 {
			t.Errorf("WordWait(%d, %v) = %d, %v; want %v", f, word, got, ok, want)
		}
	})
	for _, x := range []struct {
		f    int
		word []int
		want int
	}{
		{2, []int{0, 1, 0}, 10}, {1, []int{0}, 1}, {1, make([]int, mostWord), mostWord}, {6, []int{5}, 6}, {2, []int{0, 0}, 6}, {2, []int{0, 1}, 4}, {6, slices.Repeat([]int{5}, mostWord), 55986}, {6, []int{0, 1, 2, 3, 4, 5}, 46656}, {6, []int{0, 1, 2, 0, 1, 2}, 46872},
	} {
		checkCount(t, x.want)(impl.WordWait(x.f, x.word))
	}
}

// A die with one face shows each word as soon as it has been thrown as often as this has faces.
func TestPromise9DiceWithOneFace(t *testing.T) {
	for size := 1; size <= mostWord; size++ {
		word := make([]int, size)
		checkCount(t, size)(impl.WordWait(1, word))
		for n := range mostThrow + 1 {
			want := make([]int, n+1)
			if size <= n {
				want[size] = 1
			}
			checkList(t, want)(impl.FirstFound(1, word, n))
			checkCount(t, min(size, n))(impl.TeamWins(1, word, make([]int, n)))
		}
		for other := 1; other <= mostWord; other++ {
			if got, ok := impl.WordOdds(1, word, make([]int, other)); ok || got != [2]int{} {
				t.Errorf("WordOdds of %d and %d faces = %v, %v", size, other, got, ok)
			}
		}
	}
	checkCount(t, 1)(impl.CouponCounts(1, 1))
	checkCount(t, 1)(impl.CouponCounts(1, mostThrow))
	checkCount(t, 0)(impl.CouponCounts(1, 0))
}

func TestPromise9FirstFound(t *testing.T) {
	eachWord(mostFaces, mostWord, func(f int, word []int) {
		want := finderOf(f, word).firstFound(mostThrow)
		for n := mostThrow; n >= 0 && (n == mostThrow || len(word) < 4); n-- {
			if got, ok := impl.FirstFound(f, word, n); !ok || !slices.Equal(got, want[:n+1]) {
				t.Fatalf("FirstFound(%d, %v, %d) = %v, %v; want %v", f, word, n, got, ok, want[:n+1])
			}
		}
	})
}

func TestPromise9FirstFoundInAllLists(t *testing.T) {
	for f, most := range []int{0, mostThrow, mostThrow, 6, 5, 5, 4} {
		for size := 1; f > 0 && size <= min(3, most); size++ {
			tuples(facesOf(f), size, func(word []int) {
				want := make([]int, most+1)
				for m := range want {
					tuples(facesOf(f), m, func(throws []int) {
						if foundAt(word, throws) == m {
							want[m]++
						}
					})
				}
				if got, ok := impl.FirstFound(f, word, most); !ok || !slices.Equal(got, want) {
					t.Errorf("FirstFound(%d, %v, %d) = %v, %v; want %v", f, word, most, got, ok, want)
				}
			})
		}
	}
}

func TestPromise9KnownFirstFound(t *testing.T) {
	checkList(t, []int{0})(impl.FirstFound(2, []int{0, 0}, 0))
	checkList(t, []int{0, 0, 1, 1})(impl.FirstFound(2, []int{0, 0}, 3))
	checkList(t, []int{0, 0, 1, 1, 2, 3, 5, 8, 13})(impl.FirstFound(2, []int{0, 0}, mostThrow))
	checkList(t, []int{0, 0, 1, 2, 3, 4, 5, 6, 7})(impl.FirstFound(2, []int{0, 1}, mostThrow))
	checkList(t, []int{0, 1, 5, 25, 125, 625, 3125, 15625, 78125})(impl.FirstFound(6, []int{5}, mostThrow))
	checkList(t, []int{0, 0, 0, 0, 0, 0})(impl.FirstFound(6, make([]int, mostWord), 5))
	checkList(t, []int{0, 0, 0, 0, 0, 0, 1, 5, 30})(impl.FirstFound(6, make([]int, mostWord), mostThrow))
	checkList(t, []int{0, 0, 0, 0, 0, 0, 1, 6, 36})(impl.FirstFound(6, []int{0, 1, 2, 3, 4, 5}, mostThrow))
}

func TestPromise9TeamWins(t *testing.T) {
	check := func(f int, word []int, throws []int) {
		want := teamHas(f, word, throws)
		if got, ok := impl.TeamWins(f, word, throws); !ok || got != want {
			t.Errorf("TeamWins(%d, %v, %v) = %d, %v; want %d", f, word, throws, got, ok, want)
		}
	}
	eachWord(2, mostWord, func(f int, word []int) {
		for n := range mostThrow + 1 {
			tuples(facesOf(f), n, func(throws []int) { check(f, word, throws) })
		}
	})
	eachWord(mostFaces, 2, func(f int, word []int) {
		for n := range 5 {
			tuples(facesOf(f), n, func(throws []int) { check(f, word, throws) })
		}
	})
	rolls := &dice{6}
	for range 20000 {
		f := rolls.between(1, mostFaces)
		word := rolledWord(rolls, f, rolls.between(1, mostWord))
		throws := append(append(rolledWord(rolls, f, rolls.below(4)), word...), rolledWord(rolls, f, 3)...)
		check(f, word, throws[:rolls.below(min(len(throws), mostThrow)+1)])
	}
}

func TestPromise9KnownTeamWins(t *testing.T) {
	for _, x := range []struct {
		f            int
		word, throws []int
		want         int
	}{
		{2, []int{0, 0}, nil, 0}, {2, []int{0, 0}, []int{}, 0}, {2, []int{0, 0}, []int{1}, 0}, {2, []int{0, 0}, []int{0}, 2}, {2, []int{0, 0}, []int{0, 1}, 0}, {2, []int{0, 0}, []int{0, 0}, 6}, {2, []int{0, 0}, []int{1, 0, 0, 1}, 6}, {2, []int{0, 0}, []int{0, 0, 1, 1, 1, 1, 1, 1}, 6},
		{2, []int{0, 1, 0}, []int{0, 1}, 4}, {2, []int{0, 1, 0}, []int{0, 1, 0}, 10}, {2, []int{0, 1, 0}, []int{0, 1, 0, 1}, 10}, {2, []int{0, 1, 0}, []int{0, 1, 1, 0, 0}, 2}, {6, []int{5}, []int{0, 1, 2, 3, 4, 0, 1, 5}, 6}, {6, []int{5}, []int{0, 1, 2, 3, 4, 0, 1, 2}, 0},
		{6, slices.Repeat([]int{5}, mostWord), []int{0, 0, 5, 5, 5, 5, 5, 5}, 55986}, {6, slices.Repeat([]int{5}, mostWord), []int{5, 5, 5, 5, 5, 0, 5, 5}, 42}, {1, []int{0}, make([]int, mostThrow), 1}, {1, make([]int, mostWord), make([]int, mostThrow), mostWord},
	} {
		checkCount(t, x.want)(impl.TeamWins(x.f, x.word, x.throws))
	}
}

// What a team has, over all lists of n throws, is as much as is thrown until the word is found, at
// most n, and it has WordWait when the word is found.
func TestPromise9TeamsHaveWhatIsThrown(t *testing.T) {
	check := func(f int, word []int, n int) {
		has, thrown, lists := 0, 0, make([]int, n+1)
		wait, okWait := impl.WordWait(f, word)
		tuples(facesOf(f), n, func(throws []int) {
			team, ok := impl.TeamWins(f, word, throws)
			has += team
			at := foundAt(word, throws)
			thrown += min(n, at)
			if !ok || !okWait || at <= n && team != wait {
				t.Errorf("TeamWins(%d, %v, %v) = %d, %v; WordWait is %d, %v", f, word, throws, team, ok, wait, okWait)
			}
			if at <= n {
				lists[at]++
			}
		})
		if has != thrown {
			t.Errorf("the team of %v has %d over all lists of %d throws, and %d are thrown", word, has, n, thrown)
		}
		first, ok := impl.FirstFound(f, word, n)
		for m, count := range first {
			if !ok || count*pow(f, n-m) != lists[m] {
				t.Errorf("FirstFound(%d, %v, %d) = %v, %v; lists: %v", f, word, n, first, ok, lists)
			}
		}
	}
	for f, most := range []int{0, mostThrow, mostThrow, 6, 5, 4, 4} {
		for size := 1; f > 0 && size <= min(4, most); size++ {
			tuples(facesOf(f), size, func(word []int) {
				for n := range most + 1 {
					if size < 4 || f < 4 || slices.Max(word) < 2 {
						check(f, word, n)
					}
				}
			})
		}
	}
	check(mostFaces, []int{5, 5}, 6)
	check(3, []int{2, 0, 2, 0, 2}, mostThrow)
	check(2, []int{1, 0, 1, 1, 0, 1}, mostThrow)
}

func TestPromise9WordOdds(t *testing.T) {
	check := func(f int, a []int, b []int) {
		if len(a) != len(b) || slices.Equal(a, b) {
			if got, ok := impl.WordOdds(f, a, b); ok || got != [2]int{} {
				t.Errorf("WordOdds(%d, %v, %v) = %v, %v", f, a, b, got, ok)
			}
			return
		}
		got, ok := impl.WordOdds(f, a, b)
		checkFraction(t, fmt.Sprint("WordOdds of ", f, a, b), got, ok, raceOf(f, a, b).chance(f))
	}
	eachPair(2, 4, check)
	eachPair(3, 2, check)
	eachPair(mostFaces, 1, check)
	rolls := &dice{8}
	for range 800 {
		f, size := rolls.between(1, mostFaces), rolls.between(1, mostWord)
		check(f, rolledWord(rolls, f, size), rolledWord(rolls, f, size))
	}
}

// One of both words is found first.
func TestPromise9WordOddsOfBoth(t *testing.T) {
	check := func(f int, a []int, b []int) {
		if len(a) != len(b) || slices.Equal(a, b) {
			return
		}
		first, ok := impl.WordOdds(f, a, b)
		second, okSecond := impl.WordOdds(f, b, a)
		if !ok || !okSecond || first[0] <= 0 || second[0] <= 0 || new(big.Rat).Add(exact(first), exact(second)).Cmp(rat(1, 1)) != 0 {
			t.Errorf("WordOdds of %v and %v = %v, %v and %v, %v", a, b, first, ok, second, okSecond)
		}
	}
	eachPair(2, mostWord, check)
	eachPair(4, 3, check)
	eachPair(mostFaces, 2, check)
}

func TestPromise9KnownWordOdds(t *testing.T) {
	for _, x := range []struct {
		f    int
		a, b []int
		want [2]int
	}{
		{2, []int{0, 0}, []int{1, 0}, [2]int{1, 4}}, {2, []int{1, 0}, []int{0, 0}, [2]int{3, 4}}, {2, []int{0}, []int{1}, [2]int{1, 2}}, {6, []int{0}, []int{5}, [2]int{1, 2}}, {2, []int{0, 1, 0}, []int{0, 0, 1}, [2]int{1, 3}}, {2, []int{0, 0, 0}, []int{1, 0, 0}, [2]int{1, 8}},
		{2, []int{0, 0, 0, 0, 0, 0}, []int{1, 0, 0, 0, 0, 0}, [2]int{1, 64}}, {6, []int{0, 0, 0, 0, 0, 0}, []int{1, 0, 0, 0, 0, 0}, [2]int{6221, 15552}}, {6, []int{0, 0, 0, 0, 0, 0}, []int{0, 1, 2, 3, 4, 5}, [2]int{1296, 2851}},
	} {
		got, ok := impl.WordOdds(x.f, x.a, x.b)
		if !ok || got != x.want {
			t.Errorf("WordOdds(%d, %v, %v) = %v, %v; want %v", x.f, x.a, x.b, got, ok, x.want)
		}
	}
	for _, x := range []struct{ a, b []int }{
		{[]int{0}, []int{0}}, {[]int{0, 1}, []int{0, 1}}, {[]int{1, 0, 1, 0, 1, 0}, []int{1, 0, 1, 0, 1, 0}}, {[]int{0}, []int{0, 0}}, {[]int{1, 0}, []int{0}}, {[]int{0, 1, 0}, []int{0, 1}}, {[]int{0, 1, 0, 1, 0}, []int{0, 1, 0, 1, 0, 1}},
	} {
		if got, ok := impl.WordOdds(2, x.a, x.b); ok || got != [2]int{} {
			t.Errorf("WordOdds(2, %v, %v) = %v, %v", x.a, x.b, got, ok)
		}
	}
}

func TestPromise9NoWords(t *testing.T) {
	for _, x := range badWords() {
		good := slices.Repeat([]int{0}, min(max(len(x.word), 1), mostWord))
		checkNoCount(t)(impl.WordWait(x.f, x.word))
		checkNoList(t)(impl.FirstFound(x.f, x.word, 3))
		checkNoCount(t)(impl.TeamWins(x.f, x.word, []int{0}))
		checkNoCount(t)(impl.TeamWins(x.f, x.word, nil))
		checkNoList(t)(impl.OverlapsOf(x.f, x.word, good))
		checkNoList(t)(impl.OverlapsOf(x.f, good, x.word))
		for _, pair := range [][2][]int{{x.word, good}, {good, x.word}, {x.word, x.word}, {x.word, []int{1}}} {
			if got, ok := impl.WordOdds(x.f, pair[0], pair[1]); ok || got != [2]int{} {
				t.Errorf("WordOdds of %d, %.9v = %v, %v", x.f, pair, got, ok)
			}
		}
		if f := x.f; isIn(f, 1, mostFaces) && len(x.word) > 0 && len(x.word) <= mostThrow && !areFrom(x.word, 0, f-1) {
			checkNoCount(t)(impl.TeamWins(f, []int{0}, x.word))
			checkNoCount(t)(impl.TeamWins(f, []int{0, 0}, x.word))
		}
	}
	for f := 1; f <= mostFaces; f++ {
		for _, n := range []int{-1, mostThrow + 1, math.MaxInt, math.MinInt} {
			checkNoList(t)(impl.FirstFound(f, []int{0}, n))
		}
		checkNoCount(t)(impl.TeamWins(f, []int{0}, make([]int, mostThrow+1)))
		checkNoCount(t)(impl.TeamWins(f, make([]int, mostWord), make([]int, 1<<16)))
		// A throw behind the one at which the word is found must be a face, too.
		checkNoCount(t)(impl.TeamWins(f, []int{0}, []int{0, f}))
		checkNoCount(t)(impl.TeamWins(f, []int{0}, []int{0, 0, -1}))
	}
}
