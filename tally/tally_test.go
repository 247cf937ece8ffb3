package tally

import (
	"math"
	"math/rand/v2"
	"pantler/api"
	"reflect"
	"slices"
	"testing"
)

func deed(lane string, kind int, e api.Errno, begin, end int) api.Deed {
	return api.Deed{Lane: lane, Begin: begin, End: end, Done: true, Call: api.Call{Kind: kind}, Answer: api.Answer{Err: e}}
}

// some are deeds of two lanes, the last one of which was not answered.
func some() []api.Deed {
	return []api.Deed{deed("t", 2, 5, 1, 4), deed("u", 1, 0, 2, 2), deed("t", 1, 9, 3, 13), deed("t", 2, 0, 4, 9), deed("t", 2, 5, 5, 6), {Lane: "t", Begin: 6, End: 50, Call: api.Call{Kind: 7}}}
}

func TestCounts(t *testing.T) {
	want := []api.Count{{Kind: 1, Err: 0, N: 1}, {Kind: 1, Err: 9, N: 1}, {Kind: 2, Err: 0, N: 1}, {Kind: 2, Err: 5, N: 2}}
	if got := Counts(some()); !slices.Equal(got, want) {
		t.Error(got)
	}
	odd := []api.Deed{deed("", math.MaxInt, -1, 0, 0), deed("", -3, 99, 0, 0), deed("", -3, -5, 0, 0)}
	if got := Counts(odd); !slices.Equal(got, []api.Count{{Kind: -3, Err: -5, N: 1}, {Kind: -3, Err: 99, N: 1}, {Kind: math.MaxInt, Err: -1, N: 1}}) {
		t.Error(got)
	}
	if len(Counts(nil))+len(Counts(some()[5:])) != 0 {
		t.Error("counts of nothing")
	}
}

func TestTook(t *testing.T) {
	if got := Took(some()); !slices.Equal(got, []int{0, 1, 3, 5, 10}) {
		t.Error(got)
	}
	for want, ends := range map[int][][2]int{0: {{5, 4}, {0, 1<<53 + 1}, {math.MinInt, math.MaxInt}, {math.MaxInt, math.MinInt}, {7, 7}, {-1, 1 << 53}}, 1 << 53: {{0, 1 << 53}, {-1, 1<<53 - 1}}, 12: {{-5, 7}}} {
		for _, x := range ends {
			if got := Took([]api.Deed{deed("t", 1, 0, x[0], x[1])}); !slices.Equal(got, []int{want}) {
				t.Error(x, got)
			}
		}
	}
	if len(Took(nil))+len(Took(some()[5:])) != 0 {
		t.Error("of nothing")
	}
}

func TestAt(t *testing.T) {
	l := []int{7, 1, 5, 3}
	for hundredths, want := range map[int]int{0: 7, 33: 7, 34: 1, 50: 1, 66: 1, 67: 5, 99: 5, 100: 3, 101: 3, -1: 7, math.MaxInt: 3, math.MinInt: 7} {
		if got := At(l, hundredths); got != want {
			t.Error(hundredths, got)
		}
	}
	var long []int
	for k := range 1001 {
		long = append(long, k)
	}
	for hundredths, want := range map[int]int{-1: 0, 0: 0, 1: 10, 50: 500, 99: 990, 100: 1000, 101: 1000, math.MaxInt: 1000} {
		if got := At(long, hundredths); got != want {
			t.Error(hundredths, got)
		}
	}
	if At(nil, 50) != 0 || At([]int{9}, 50) != 9 || At([]int{9, 8}, 99) != 9 {
		t.Error("short lists")
	}
}

func TestOfAndLanes(t *testing.T) {
	want := api.Sum{Calls: 5, Done: 4, Counts: []api.Count{{Kind: 1, Err: 9, N: 1}, {Kind: 2, Err: 0, N: 1}, {Kind: 2, Err: 5, N: 2}}, Middle: 3, Longest: 10}
	if got := Of(some(), "t"); !reflect.DeepEqual(got, want) {
		t.Error(got)
	}
	var many []api.Deed
	for k := range 201 {
		many = append(many, deed("t", 1, 0, 0, k))
	}
	if got := Of(many, "t"); got.Middle != 100 || got.Longest != 200 {
		t.Error(got)
	}
	if got := Of(some(), "v"); got.Calls != 0 || got.Done != 0 || len(got.Counts) != 0 || got.Middle != 0 || got.Longest != 0 {
		t.Error(got)
	}
	if got := Lanes(append(some(), deed("", 1, 0, 0, 0), deed("Z", 1, 0, 0, 0))); !slices.Equal(got, []string{"", "Z", "t", "u"}) {
		t.Error(got)
	}
	if len(Lanes(nil)) != 0 {
		t.Error("lanes of nothing")
	}
}

func TestLines(t *testing.T) {
	want := "lane t 5 4 3 10\ncount 1 9 1\ncount 2 0 1\ncount 2 5 2\nlane u 1 1 0 0\ncount 1 0 1\n"
	if got := Lines(some()); got != want {
		t.Error(got)
	}
	if got := Lines([]api.Deed{{Lane: "x", Call: api.Call{Kind: 3}}}); got != "lane x 1 0 0 0\n" {
		t.Error(got)
	}
	if Lines(nil) != "" {
		t.Error("lines of nothing")
	}
}

func TestAllCountsTogether(t *testing.T) {
	r := rand.New(rand.NewPCG(69, 70))
	for range 300 {
		var l []api.Deed
		for range r.IntN(20) {
			d := deed([]string{"t", "u"}[r.IntN(2)], r.IntN(4), api.Errno(r.IntN(3)), r.IntN(9), r.IntN(9))
			d.Done = r.IntN(3) > 0
			l = append(l, d)
		}
		was, calls := slices.Clone(l), 0
		for _, lane := range Lanes(l) {
			sum := Of(l, lane)
			all := 0
			for _, c := range sum.Counts {
				all += c.N
			}
			if all != sum.Done || sum.Done > sum.Calls || sum.Middle > sum.Longest {
				t.Fatal(sum)
			}
			calls += sum.Calls
		}
		if calls != len(l) || !reflect.DeepEqual(l, was) {
			t.Fatal(l)
		}
	}
}
