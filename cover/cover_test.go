package cover

import (
	"math"
	"math/rand/v2"
	"slices"
	"testing"
)

// choices tells of each choice of so many pairs, the first one first.
func choices(l [][2]int, many int, tell func(places []int, left, right int)) {
	var next func(from int, places []int)
	next = func(from int, places []int) {
		if len(places) == many {
			lefts, rights := map[int]int{}, map[int]int{}
			for _, k := range places {
				lefts[l[k][0]]++
				rights[l[k][1]]++
			}
			tell(slices.Clone(places), len(lefts), len(rights))
			return
		}
		for k := from; k < len(l); k++ {
			next(k+1, append(places, k))
		}
	}
	if many >= 0 {
		next(0, nil)
	}
}

// tried are the best numbers, and the first choice that has them, tried one by one.
func tried(l [][2]int, many int) (int, int, []int) {
	left, right := -1, -1
	var first []int
	choices(l, many, func(places []int, a, b int) {
		if a > left || a == left && b > right {
			left, right, first = a, b, places
		}
	})
	return max(left, 0), max(right, 0), first
}

func TestExample(t *testing.T) {
	l := [][2]int{{1, 1}, {1, 2}, {2, 1}}
	if got := Pick(l, 2); !slices.Equal(got, []int{1, 2}) {
		t.Error(got)
	}
	if a, b := Best(l, 2); a != 2 || b != 2 {
		t.Error(a, b)
	}
	if !Can(l, 2, 2, 2) || Can(l, 1, 1, 2) || !Can(l, 1, 1, 1) || !Can(l, 3, 2, 2) {
		t.Error("what can be done")
	}
}

func TestTheFirstChoiceIsTold(t *testing.T) {
	for k, x := range []struct {
		l    [][2]int
		many int
		want []int
	}{
		{[][2]int{{1, 1}, {1, 1}, {1, 1}, {2, 2}}, 2, []int{0, 3}},
		{[][2]int{{1, 1}, {1, 1}, {1, 1}, {2, 2}}, 3, []int{0, 1, 3}},
		{[][2]int{{1, 1}, {2, 2}, {3, 3}}, 2, []int{0, 1}},
		{[][2]int{{1, 5}, {1, 6}, {1, 7}}, 2, []int{0, 1}},
		{[][2]int{{0, 0}, {0, 1}, {0, 2}, {1, 0}}, 2, []int{1, 3}},
		{[][2]int{{0, 0}, {0, 1}, {1, 1}, {1, 0}}, 2, []int{0, 2}},
		{[][2]int{{9, -9}}, 1, []int{0}},
	} {
		if got := Pick(x.l, x.many); !slices.Equal(got, x.want) {
			t.Error(k, got)
		}
	}
}

func TestWithoutAChoice(t *testing.T) {
	l := [][2]int{{1, 1}, {2, 2}}
	for _, many := range []int{-1, 3, math.MinInt, math.MaxInt} {
		if Can(l, many, 0, 0) || Can(l, many, -1, -1) || Can(l, many, 1, 1) {
			t.Error("can", many)
		}
		if a, b := Best(l, many); a != 0 || b != 0 {
			t.Error(many, a, b)
		}
		if got := Pick(l, many); len(got) != 0 {
			t.Error(many, got)
		}
	}
	if !Can(l, 0, 0, 0) || !Can(nil, 0, -5, math.MinInt) || Can(l, 0, 1, 0) || Can(l, 0, 0, 1) || Can(nil, 1, 0, 0) || len(Pick(l, 0))+len(Pick(nil, 0)) != 0 {
		t.Error("of nothing")
	}
	if Can(l, 2, math.MaxInt, 0) || Can(l, 2, 0, math.MaxInt) || Can(l, 2, math.MaxInt, math.MaxInt) || !Can(l, 2, math.MinInt, 2) {
		t.Error("great numbers")
	}
}

func TestSomePairs(t *testing.T) {
	r := rand.New(rand.NewPCG(15, 16))
	for range 500 {
		var l [][2]int
		lefts, rights := 1+r.IntN(5), 1+r.IntN(5)
		for range r.IntN(9) {
			l = append(l, [2]int{r.IntN(lefts), r.IntN(rights)})
		}
		was := slices.Clone(l)
		for many := -1; many <= len(l)+1; many++ {
			left, right, first := tried(l, many)
			if a, b := Best(l, many); a != left || b != right {
				t.Fatal(l, many, a, b, left, right)
			}
			if got := Pick(l, many); !slices.Equal(got, first) {
				t.Fatal(l, many, got, first)
			}
			for a := -1; a <= 6; a++ {
				for b := -1; b <= 6; b++ {
					can := false
					choices(l, many, func(_ []int, x, y int) { can = can || x >= a && y >= b })
					if Can(l, many, a, b) != can {
						t.Fatal(l, many, a, b, can)
					}
				}
			}
		}
		if !slices.Equal(l, was) {
			t.Fatal("changed", was, l)
		}
	}
}

func TestManyPairs(t *testing.T) {
	// Racks of many nodes that all lie in one zone stand ahead of one rack in many zones.
	var l [][2]int
	for k := range 1000 {
		l = append(l, [2]int{k, 0})
	}
	for k := range 24 {
		l = append(l, [2]int{0, k + 1})
	}
	got := Pick(l, 16)
	if a, b := Best(l, 16); a != 16 || b != 2 || len(got) != 16 || got[14] != 15 || got[15] != 1000 {
		t.Error(a, b, got)
	}
}
