package window

import (
	"math"
	"math/rand/v2"
	"pantler/api"
	"pantler/rate"
	"slices"
	"testing"
)

func TestLet(t *testing.T) {
	var l []api.Deed
	for e := api.OK; e <= api.ErrFew; e++ {
		l = append(l, api.Deed{Node: "n", Lane: "t", Tick: 100 - int(e), Done: true, Answer: api.Answer{Err: e}})
	}
	l = append(l, api.Deed{Node: "n", Lane: "t", Tick: 7}, api.Deed{Node: "n", Lane: "t", Tick: 7, Answer: api.Answer{Err: api.ErrRate}}, api.Deed{Node: "m", Lane: "t", Tick: 1}, api.Deed{Node: "n", Lane: "u", Tick: 2})
	// 1 is ErrArg, 7 ErrToken, 8 ErrAccess, 9 ErrRate, 11 ErrBusy.
	if got := Let(l, "n", "t"); !slices.Equal(got, []int{100, 98, 97, 96, 95, 94, 90, 88, 87, 86, 85, 7, 7}) {
		t.Error(got)
	}
	if got := Let(l, "m", "t"); !slices.Equal(got, []int{1}) {
		t.Error(got)
	}
	if len(Let(l, "m", "u"))+len(Let(nil, "n", "t")) != 0 {
		t.Error("ticks of nothing")
	}
}

func TestMostAndWorst(t *testing.T) {
	for k, x := range []struct {
		ticks       []int
		width       int
		most, begin int
	}{
		{[]int{1, 2, 5}, 1, 2, 1},
		{[]int{5, 2, 1}, 1, 2, 1},
		{[]int{1, 2, 5}, 0, 1, 1},
		{[]int{1, 2, 5}, -3, 1, 1},
		{[]int{1, 2, 5}, 3, 2, 1},
		{[]int{1, 2, 5}, 4, 3, 1},
		{[]int{1, 3, 4, 5}, 2, 3, 3},
		{[]int{7, 7, 7, 1}, 0, 3, 7},
		{[]int{7, 7, 7, 1}, math.MinInt, 3, 7},
		{[]int{-5, -4, 9, 10}, 1, 2, -5},
		{[]int{math.MinInt, math.MaxInt}, math.MaxInt, 1, math.MinInt},
		{[]int{math.MinInt, -1, 0, math.MaxInt}, math.MaxInt, 2, math.MinInt},
		{[]int{0, math.MaxInt}, math.MaxInt, 2, 0},
	} {
		was := slices.Clone(x.ticks)
		if got := Most(x.ticks, x.width); got != x.most {
			t.Error(k, got)
		}
		if got, ok := Worst(x.ticks, x.width); got != x.begin || !ok {
			t.Error(k, got, ok)
		}
		if !slices.Equal(x.ticks, was) {
			t.Error("changed", k)
		}
	}
	if got, ok := Worst(nil, 5); got != 0 || ok || Most(nil, 5) != 0 {
		t.Error(got, ok)
	}
}

func TestWithin(t *testing.T) {
	for k, x := range []struct {
		ticks       []int
		rate, burst int
		want        bool
	}{
		{nil, 0, 0, true},
		{[]int{5}, 0, 0, false},
		{[]int{5}, 9, 0, false},
		{[]int{5}, 0, 1, true},
		{[]int{5, 5}, 1, 1, false},
		{[]int{5, 5}, 1, 2, true},
		{[]int{6, 5}, 1, 1, true},
		{[]int{5, 6, 6}, 1, 1, false},
		{[]int{5, 6, 6}, 1, 2, true},
		{[]int{6, 5, 6}, 2, 1, false},
		{[]int{5, 7, 7, 7}, 1, 2, false},
		{[]int{5, 7, 7, 7}, 1, 3, true},
		{[]int{5, 7, 7}, -1, 2, false},
		{[]int{5, 7, 7}, -1, 3, true},
		{[]int{5}, 1, -1, false},
		{[]int{-9, -8, -7}, 1, 2, false},
		{[]int{-9, -8, -7}, 1, 3, true},
		{[]int{math.MinInt, math.MaxInt}, 1, 1, true},
	} {
		if got := Within(x.ticks, x.rate, x.burst); got != x.want {
			t.Error(k, got)
		}
	}
}

func TestSomeTicks(t *testing.T) {
	r := rand.New(rand.NewPCG(65, 66))
	for range 2000 {
		var ticks []int
		for range r.IntN(9) {
			ticks = append(ticks, r.IntN(9)-2)
		}
		width, perTick, burst := r.IntN(6)-1, r.IntN(4)-1, r.IntN(5)-1
		in := func(from, to int) int {
			many := 0
			for _, tick := range ticks {
				if from <= tick && tick <= to {
					many++
				}
			}
			return many
		}
		most, begin, within := 0, 0, true
		for from := 9; from >= -3; from-- {
			if many := in(from, from+max(width, 0)); many >= most && slices.Contains(ticks, from) {
				most, begin = many, from
			}
			for to := from; to <= 9; to++ {
				if slices.Contains(ticks, from) && slices.Contains(ticks, to) && in(from, to) > rate.Most(from, to, perTick, burst) {
					within = false
				}
			}
		}
		if got, ok := Worst(ticks, width); Most(ticks, width) != most || got != begin || ok != (len(ticks) > 0) {
			t.Fatal(ticks, width, got)
		}
		if Within(ticks, perTick, burst) != within {
			t.Fatal(ticks, perTick, burst)
		}
		if Most(ticks, width+1) < most || Most(ticks, 100) != len(ticks) {
			t.Fatal("a wider window has less", ticks, width)
		}
	}
}

func TestWhatIsLetIsWithin(t *testing.T) {
	r := rand.New(rand.NewPCG(67, 68))
	for range 300 {
		perTick, burst := r.IntN(3), r.IntN(5)
		b := rate.Full(0, burst)
		var ticks []int
		for now := range 30 {
			for range r.IntN(5) {
				next, ok := rate.Take(b, now, perTick, burst)
				if ok {
					b = next
					ticks = append(ticks, now)
				}
			}
		}
		if !Within(ticks, perTick, burst) {
			t.Fatal(perTick, burst, ticks)
		}
		if slices.Contains(ticks, 0) && Within(append(ticks, slices.Repeat([]int{0}, burst+1)...), perTick, burst) {
			t.Fatal("more is within", perTick, burst, ticks)
		}
	}
}
