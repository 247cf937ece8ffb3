package walk

import (
	"math"
	"math/rand/v2"
	"pantler/api"
	"slices"
	"testing"
)

func members(names ...string) []api.Member {
	var l []api.Member
	for _, name := range names {
		l = append(l, api.Member{Name: name})
	}
	return l
}

func TestFrom(t *testing.T) {
	for _, x := range [][3]int{{0, 3, 0}, {2, 3, 2}, {3, 3, 0}, {7, 3, 1}, {-1, 3, 2}, {-3, 3, 0}, {-7, 3, 2}, {5, 1, 0}, {5, 0, 0}, {5, -3, 0}, {math.MaxInt, 10, 7}, {math.MinInt, 10, 2}, {math.MaxInt - 1, math.MaxInt, math.MaxInt - 1}, {-1, math.MaxInt, math.MaxInt - 1}, {math.MinInt, math.MaxInt, math.MaxInt - 1}, {5, math.MinInt, 0}} {
		if got := From(x[0], x[1]); got != x[2] {
			t.Error(x, got)
		}
	}
}

func TestOrder(t *testing.T) {
	for k, x := range []struct {
		owners []string
		l      []api.Member
		part   int
		want   []int
	}{
		{[]string{"a", "b", "a"}, members("a", "b"), 1, []int{1, 0}},
		{[]string{"a", "b", "a"}, members("a", "b"), 0, []int{0, 1}},
		{[]string{"a", "b", "a"}, members("b", "a"), 2, []int{1, 0}},
		{[]string{"c", "a"}, members("a", "b", "c", "d"), 0, []int{2, 0, 1, 3}},
		{[]string{"c", "a"}, members("a", "b", "c", "d"), -1, []int{0, 2, 1, 3}},
		{[]string{"c", "a"}, members("a", "b", "c", "d"), 3, []int{0, 2, 1, 3}},
		{nil, members("a", "b"), 5, []int{0, 1}},
		{[]string{"x", "", "y"}, members("a", "b"), 0, []int{0, 1}},
		{[]string{"a"}, nil, 0, nil},
		{[]string{"b", "b"}, members("a", "b", "b", "c", "b"), 0, []int{1, 0, 2, 3, 4}},
		{[]string{"x", ""}, members("a", "", "x"), 1, []int{1, 2, 0}},
		{[]string{"a", "b", "c"}, members("a", "b", "c"), math.MaxInt, []int{1, 2, 0}},
		{[]string{"a", "b", "c"}, members("a", "b", "c"), math.MinInt, []int{1, 2, 0}},
	} {
		if got := Order(x.owners, x.l, x.part); !slices.Equal(got, x.want) {
			t.Error(k, got)
		}
	}
}

func TestEachMemberIsToldOnce(t *testing.T) {
	r := rand.New(rand.NewPCG(9, 10))
	for range 1000 {
		var owners, names []string
		for range r.IntN(8) {
			owners = append(owners, string(rune('a'+r.IntN(6))))
		}
		for k := range r.IntN(7) {
			names = append(names, string(rune('a'+k)))
		}
		r.Shuffle(len(names), func(a, b int) { names[a], names[b] = names[b], names[a] })
		part := r.IntN(20) - 10
		got := Order(owners, members(names...), part)
		if !slices.Equal(got, Order(owners, members(names...), part+len(owners))) {
			t.Fatal("as many further", owners, names, part)
		}
		nothing := false
		told := map[int]bool{}
		for _, place := range got {
			told[place] = true
			owns := slices.Contains(owners, names[place])
			if owns && nothing {
				t.Fatal("one that owns something stands behind one that owns nothing", owners, names, part, got)
			}
			nothing = nothing || !owns
		}
		if len(got) != len(names) || len(told) != len(names) {
			t.Fatal(owners, names, part, got)
		}
	}
}
