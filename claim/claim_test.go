package claim

import (
	"math/rand/v2"
	"slices"
	"testing"
)

func TestLoads(t *testing.T) {
	owners := []string{"a", "b", "a", "", "c", "a"}
	for k, x := range []struct {
		names []string
		want  []int
	}{{nil, nil}, {[]string{"c", "a", "x"}, []int{1, 3, 0}}, {[]string{"", "b"}, []int{1, 1}}, {[]string{"a", "a"}, []int{3, 3}}} {
		if got := Loads(owners, x.names); !slices.Equal(got, x.want) {
			t.Error(k, got)
		}
	}
	if got := Loads(nil, []string{"a"}); !slices.Equal(got, []int{0}) {
		t.Error(got)
	}
}

func TestMoved(t *testing.T) {
	for k, x := range []struct {
		a, b []string
		want int
	}{{nil, nil, 0}, {[]string{"a", "b"}, []string{"a", "b"}, 0}, {[]string{"a", "b", "c"}, []string{"b", "b", "a"}, 2}, {[]string{"a"}, []string{"b", "c", "d"}, 3}, {[]string{"a", "b", "c"}, []string{"a"}, 2}, {nil, []string{"", ""}, 2}} {
		if a, b := Moved(x.a, x.b), Moved(x.b, x.a); a != x.want || b != x.want {
			t.Error(k, a, b)
		}
	}
}

func TestEven(t *testing.T) {
	for k, x := range []struct{ owners, names, want []string }{
		{[]string{"a", "a", "a", "b"}, []string{"a", "b", "c"}, []string{"a", "a", "c", "b"}},
		{[]string{"", "", "", ""}, []string{"x", "y", "z"}, []string{"x", "y", "z", "x"}},
		{[]string{"a", "b", "c"}, nil, []string{"", "", ""}},
		{nil, []string{"a"}, nil},
		{nil, nil, nil},
		{[]string{"a", "b", "b", "b", "b"}, []string{"a", "b"}, []string{"a", "b", "b", "b", "a"}},
		{[]string{"b", "a", "b", "a", "x"}, []string{"a", "b"}, []string{"b", "a", "b", "a", "a"}},
		{[]string{"x", "b", "b", "b", "a"}, []string{"a", "b"}, []string{"a", "b", "b", "b", "a"}},
		{[]string{"x", "x", "x", "x", "c"}, []string{"b", "a", "b", "c", "a"}, []string{"b", "a", "b", "c", "c"}},
		{[]string{"x", "x", "x", "x", "x", "c", "c"}, []string{"a", "b", "c"}, []string{"a", "b", "a", "b", "c", "c", "c"}},
		{[]string{"a", "a", "a"}, []string{"b", "c"}, []string{"b", "c", "b"}},
		{[]string{"a", "", "a", "a"}, []string{"", "a"}, []string{"a", "", "a", ""}},
		{[]string{"a"}, []string{"a", "b"}, []string{"a"}},
		{[]string{"b"}, []string{"a", "b", "c"}, []string{"b"}},
	} {
		was := slices.Clone(x.owners)
		if got := Even(x.owners, x.names); !slices.Equal(got, x.want) || !slices.Equal(x.owners, was) {
			t.Error(k, got)
		}
	}
}

// fewest is how many partitions must be moved at least, that shares are even, tried one by one.
func fewest(owners, names []string) int {
	best := len(owners) + 1
	now := make([]string, len(owners))
	var next func(part int)
	next = func(part int) {
		if part == len(owners) {
			loads := Loads(now, names)
			if slices.Max(loads)-slices.Min(loads) <= 1 {
				best = min(best, Moved(owners, now))
			}
			return
		}
		for _, name := range names {
			now[part] = name
			next(part + 1)
		}
	}
	next(0)
	return best
}

func TestFewPartitionsAreMoved(t *testing.T) {
	r := rand.New(rand.NewPCG(19, 20))
	for range 1500 {
		var owners, names []string
		for range r.IntN(7) {
			owners = append(owners, string(rune('a'+r.IntN(5))))
		}
		for k := range 1 + r.IntN(4) {
			names = append(names, string(rune('a'+k)))
		}
		r.Shuffle(len(names), func(a, b int) { names[a], names[b] = names[b], names[a] })
		now := Even(owners, names)
		loads := Loads(now, names)
		if len(now) != len(owners) || slices.Max(loads)-slices.Min(loads) > 1 {
			t.Fatal("not even", owners, names, now)
		}
		for _, owner := range now {
			if !slices.Contains(names, owner) {
				t.Fatal("owned by nobody", owners, names, now)
			}
		}
		if Moved(owners, now) != fewest(owners, names) {
			t.Fatal("moved too often", owners, names, now)
		}
		if again := Even(now, names); !slices.Equal(again, now) {
			t.Fatal("moved again", now, names, again)
		}
	}
}

func TestGreatRings(t *testing.T) {
	var names []string
	for k := range 1000 {
		names = append(names, string(rune('a'+k%26))+string(rune('a'+k/26)))
	}
	now := Even(make([]string, 4096), names)
	loads := Loads(now, names)
	if slices.Max(loads) != 5 || slices.Min(loads) != 4 {
		t.Error(slices.Max(loads), slices.Min(loads))
	}
}
