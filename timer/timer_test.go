package timer

import (
	"cmp"
	"maps"
	"math"
	"math/rand/v2"
	"slices"
	"testing"
)

func TestSetAndDrop(t *testing.T) {
	for _, x := range []*Timer{New(), {}} {
		if at, ok := x.Next(); at != 0 || ok || x.Len() != 0 || len(x.Due(math.MaxInt)) != 0 {
			t.Error("a new timer has calls")
		}
		x.Set(1, 5)
		x.Set(1, 3)
		x.Set(2, 9)
		x.Drop(7)
		if at, ok := x.Next(); at != 3 || !ok || x.Len() != 2 {
			t.Error(at, ok, x.Len())
		}
		if got := x.Due(2); len(got) != 0 || x.Len() != 2 {
			t.Error("due ahead of its time", got)
		}
		if got := x.Due(3); !slices.Equal(got, []int{1}) || x.Len() != 1 {
			t.Error(got)
		}
		x.Set(2, 11)
		if got := x.Due(10); len(got) != 0 {
			t.Error("due at its first time", got)
		}
		x.Drop(2)
		x.Drop(2)
		if at, ok := x.Next(); at != 0 || ok || x.Len() != 0 || len(x.Due(20)) != 0 {
			t.Error("what was dropped is due")
		}
	}
}

func TestDueInOrder(t *testing.T) {
	x := New()
	for call, at := range map[int]int{5: 2, 3: 2, 4: 1, -1: 2, 9: math.MinInt, 8: math.MaxInt, 0: -1} {
		x.Set(call, at)
	}
	if got := x.Due(2); !slices.Equal(got, []int{9, 0, 4, -1, 3, 5}) {
		t.Error(got)
	}
	if got := x.Due(math.MaxInt); !slices.Equal(got, []int{8}) || x.Len() != 0 {
		t.Error(got)
	}
}

func TestNil(t *testing.T) {
	var x *Timer
	x.Set(1, 1)
	x.Drop(1)
	if at, ok := x.Next(); at != 0 || ok || x.Len() != 0 || len(x.Due(9)) != 0 {
		t.Error("nil has calls")
	}
}

func TestEachCallIsDueOnce(t *testing.T) {
	r := rand.New(rand.NewPCG(37, 38))
	for range 300 {
		x, want := New(), map[int]int{}
		for range 80 {
			call, at := r.IntN(12), r.IntN(20)
			switch r.IntN(6) {
			case 0, 1, 2:
				x.Set(call, at)
				want[call] = at
			case 3:
				x.Drop(call)
				delete(want, call)
			case 4:
				calls := slices.SortedFunc(maps.Keys(want), func(a, b int) int {
					return cmp.Or(cmp.Compare(want[a], want[b]), cmp.Compare(a, b))
				})
				calls = slices.DeleteFunc(calls, func(call int) bool { return want[call] > at })
				if got := x.Due(at); !slices.Equal(got, calls) {
					t.Fatal(at, got, calls)
				}
				for _, call := range calls {
					delete(want, call)
				}
			}
			first, some := x.Next()
			if x.Len() != len(want) || some != (len(want) > 0) || some && first != slices.Min(slices.Collect(maps.Values(want))) {
				t.Fatal(first, some, want)
			}
		}
	}
}
