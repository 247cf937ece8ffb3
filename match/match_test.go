package match

import (
	"math"
	"math/rand/v2"
	"slices"
	"testing"
)

// check tells what is wrong with what was found and what covers, if something is.
func check(l [][2]int) string {
	found := Find(l)
	lefts, rights := map[int]int{}, map[int]int{}
	for k, place := range found {
		if place < 0 || place >= len(l) || k > 0 && found[k-1] >= place {
			return "places do not rise"
		}
		lefts[l[place][0]]++
		rights[l[place][1]]++
	}
	if len(lefts) != len(found) || len(rights) != len(found) {
		return "pairs meet"
	}
	if Max(l) != len(found) {
		return "not as many as there are"
	}
	left, right := Cover(l)
	for _, side := range [][]int{left, right} {
		if !slices.IsSorted(side) || len(slices.Compact(slices.Clone(side))) != len(side) {
			return "numbers do not rise"
		}
	}
	for _, pair := range l {
		if !slices.Contains(left, pair[0]) && !slices.Contains(right, pair[1]) {
			return "a pair is not covered"
		}
	}
	// As each of the pairs found needs a number of its own, neither can be bettered.
	if len(left)+len(right) != len(found) {
		return "more numbers than pairs"
	}
	if !slices.Equal(found, Find(l)) {
		return "not the same again"
	}
	return ""
}

func TestKnownPairs(t *testing.T) {
	for k, x := range []struct {
		l    [][2]int
		most int
	}{
		{nil, 0},
		{[][2]int{{1, 1}, {1, 2}, {2, 1}}, 2},
		{[][2]int{{1, 1}}, 1},
		{[][2]int{{1, 1}, {1, 1}, {1, 1}}, 1},
		{[][2]int{{1, 2}, {2, 1}}, 2},
		{[][2]int{{1, 9}, {2, 9}, {3, 9}}, 1},
		{[][2]int{{9, 1}, {9, 2}, {9, 3}}, 1},
		{[][2]int{{1, 1}, {2, 1}, {2, 2}, {3, 2}, {3, 3}, {4, 3}}, 3},
		{[][2]int{{1, 1}, {1, 2}, {2, 1}, {2, 2}, {3, 1}, {3, 2}}, 2},
		{[][2]int{{0, 0}, {-1, 0}, {math.MaxInt, math.MinInt}, {math.MinInt, math.MinInt}, {math.MinInt, math.MaxInt}}, 3},
	} {
		if got := Max(x.l); got != x.most {
			t.Error(k, got)
		}
		if wrong := check(x.l); wrong != "" {
			t.Error(k, wrong)
		}
	}
	if left, right := Cover([][2]int{{5, 1}, {5, 2}, {5, 3}, {4, 7}, {3, 7}}); !slices.Equal(left, []int{5}) || !slices.Equal(right, []int{7}) {
		t.Error(left, right)
	}
}

func TestPairsThatMustBeFoundAnew(t *testing.T) {
	var chain [][2]int
	for k := 3000; k > 0; k-- {
		chain = append(chain, [2]int{k, k - 1}, [2]int{k, k})
	}
	chain = append(chain, [2]int{0, 0})
	if got := Max(chain); got != 3001 {
		t.Error(got)
	}
}

// most is how many pairs do not meet at most, tried one by one.
func most(l [][2]int, lefts, rights []int) int {
	if len(l) == 0 {
		return 0
	}
	best := most(l[1:], lefts, rights)
	if p := l[0]; !slices.Contains(lefts, p[0]) && !slices.Contains(rights, p[1]) {
		best = max(best, 1+most(l[1:], append(lefts, p[0]), append(rights, p[1])))
	}
	return best
}

func TestSomePairs(t *testing.T) {
	r := rand.New(rand.NewPCG(11, 12))
	for range 2000 {
		var l [][2]int
		lefts, rights := 1+r.IntN(6), 1+r.IntN(6)
		for range r.IntN(12) {
			l = append(l, [2]int{r.IntN(lefts) - 2, r.IntN(rights) - 2})
		}
		was := slices.Clone(l)
		if got := Max(l); got != most(l, nil, nil) {
			t.Fatal(l, got)
		}
		if wrong := check(l); wrong != "" {
			t.Fatal(l, wrong)
		}
		if !slices.Equal(l, was) {
			t.Fatal("changed", was, l)
		}
	}
}

func TestManyPairs(t *testing.T) {
	r := rand.New(rand.NewPCG(13, 14))
	for _, n := range []int{10, 100, 1000} {
		var l [][2]int
		for range 2 * n {
			l = append(l, [2]int{r.IntN(n), r.IntN(n)})
		}
		if wrong := check(l); wrong != "" {
			t.Error(n, wrong)
		}
	}
}
