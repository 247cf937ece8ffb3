package rate

import (
	"math"
	"math/rand/v2"
	"pantler/api"
	"testing"
)

func TestFull(t *testing.T) {
	for k, x := range []struct {
		now, burst int
		want       api.Bucket
	}{{3, 5, api.Bucket{Left: 5, At: 3}}, {0, 0, api.Bucket{}}, {-1, -1, api.Bucket{}}, {1<<40 + 1, 1<<20 + 1, api.Bucket{Left: 1 << 20, At: 1 << 40}}, {math.MaxInt, math.MaxInt, api.Bucket{Left: 1 << 20, At: 1 << 40}}, {math.MinInt, math.MinInt, api.Bucket{}}} {
		if got := Full(x.now, x.burst); got != x.want {
			t.Error(k, got)
		}
	}
}

func TestFill(t *testing.T) {
	for k, x := range []struct {
		b                api.Bucket
		now, rate, burst int
		want             api.Bucket
	}{
		{api.Bucket{Left: 0, At: 4}, 7, 2, 5, api.Bucket{Left: 5, At: 7}},
		{api.Bucket{Left: 0, At: 4}, 6, 2, 5, api.Bucket{Left: 4, At: 6}},
		{api.Bucket{Left: 3, At: 4}, 4, 2, 5, api.Bucket{Left: 3, At: 4}},
		{api.Bucket{Left: 3, At: 4}, 1, 2, 5, api.Bucket{Left: 3, At: 4}},
		{api.Bucket{Left: 9, At: 4}, 1, 2, 5, api.Bucket{Left: 5, At: 4}},
		{api.Bucket{Left: 9, At: 4}, 5, 0, 5, api.Bucket{Left: 5, At: 5}},
		{api.Bucket{Left: 3, At: 4}, 9, -2, 5, api.Bucket{Left: 3, At: 9}},
		{api.Bucket{Left: 3, At: 4}, 9, 2, -5, api.Bucket{Left: 0, At: 9}},
		{api.Bucket{Left: -3, At: -4}, 1, 2, 5, api.Bucket{Left: 2, At: 1}},
		{api.Bucket{Left: math.MaxInt, At: math.MaxInt}, math.MaxInt, math.MaxInt, math.MaxInt, api.Bucket{Left: 1 << 20, At: 1 << 40}},
		{api.Bucket{Left: 0, At: math.MinInt}, math.MaxInt, math.MaxInt, math.MaxInt, api.Bucket{Left: 1 << 20, At: 1 << 40}},
		{api.Bucket{Left: 7, At: 1<<40 - 1}, 1<<40 + 9, 1, 10, api.Bucket{Left: 8, At: 1 << 40}},
		{api.Bucket{Left: 7, At: 3}, -9, 1, 10, api.Bucket{Left: 7, At: 3}},
	} {
		if got := Fill(x.b, x.now, x.rate, x.burst); got != x.want {
			t.Error(k, got)
		}
	}
}

func TestTake(t *testing.T) {
	if b, ok := Take(api.Bucket{Left: 2, At: 1}, 3, 1, 9); !ok || b != (api.Bucket{Left: 3, At: 3}) {
		t.Error(b, ok)
	}
	if b, ok := Take(api.Bucket{Left: 1, At: 3}, 3, 1, 9); !ok || b != (api.Bucket{Left: 0, At: 3}) {
		t.Error(b, ok)
	}
	for k, x := range []struct {
		b                api.Bucket
		now, rate, burst int
	}{{api.Bucket{}, 0, 5, 5}, {api.Bucket{Left: 0, At: 3}, 3, 5, 5}, {api.Bucket{Left: 0, At: 3}, 2, 5, 5}, {api.Bucket{Left: 5, At: 3}, 9, 5, 0}, {api.Bucket{Left: -5, At: 3}, 9, 0, 5}, {api.Bucket{Left: 5}, 9, -1, -1}} {
		if b, ok := Take(x.b, x.now, x.rate, x.burst); ok || b != Fill(x.b, x.now, x.rate, x.burst) {
			t.Error(k, b, ok)
		}
	}
}

func TestMost(t *testing.T) {
	for k, x := range [][5]int{{0, 0, 3, 5, 5}, {2, 4, 3, 5, 11}, {4, 2, 3, 5, 5}, {-7, 2, 3, 5, 11}, {0, 9, -1, -1, 0}, {math.MinInt, math.MaxInt, math.MaxInt, math.MaxInt, 1<<60 + 1<<20}, {1 << 40, 1<<40 + 5, 1, 1, 1}} {
		if got := Most(x[0], x[1], x[2], x[3]); got != x[4] {
			t.Error(k, got)
		}
	}
}

func TestNoMoreAreLetThanMost(t *testing.T) {
	r := rand.New(rand.NewPCG(29, 30))
	for range 300 {
		rate, burst := r.IntN(4), r.IntN(6)
		now := r.IntN(5)
		b := Full(now, burst)
		var let []int
		for range 40 {
			now += r.IntN(3)
			for range r.IntN(8) {
				next, ok := Take(b, now, rate, burst)
				if ok {
					let = append(let, now)
				}
				// Whether what a refusal answers is kept or not: no more are let.
				if ok || r.IntN(2) == 0 {
					b = next
				}
			}
		}
		for k, from := range let {
			for m := k; m < len(let); m++ {
				if m-k+1 > Most(from, let[m], rate, burst) {
					t.Fatal(rate, burst, let)
				}
			}
		}
	}
}
