package move

import (
	"math/rand/v2"
	"pantler/api"
	"slices"
	"testing"
)

func TestPlan(t *testing.T) {
	for k, x := range []struct {
		was, now []string
		want     []api.Move
	}{
		{nil, nil, nil},
		{[]string{"a", "b"}, []string{"a", "b"}, nil},
		{[]string{"a", "b"}, []string{"a", "c"}, []api.Move{{Part: 1, From: "b", To: "c"}}},
		{[]string{"a", "", "b"}, []string{"", "b", "b"}, []api.Move{{Part: 0, From: "a", To: ""}, {Part: 1, From: "", To: "b"}}},
		{[]string{"a", "b"}, []string{"c"}, []api.Move{{Part: 0, From: "a", To: "c"}}},
		{[]string{"a"}, []string{"a", "c"}, nil},
	} {
		if got := Plan(x.was, x.now); !slices.Equal(got, x.want) {
			t.Error(k, got)
		}
	}
}

func TestApply(t *testing.T) {
	was := []string{"a", "b", "c"}
	for k, x := range []struct {
		l    []api.Move
		want []string
	}{
		{nil, was},
		{[]api.Move{{Part: 2, From: "c", To: "x"}, {Part: 0, From: "a", To: ""}}, []string{"", "b", "x"}},
		{[]api.Move{{Part: 1, From: "b", To: "x"}, {Part: 1, From: "x", To: "y"}}, []string{"a", "y", "c"}},
		{[]api.Move{{Part: 1, From: "b", To: "b"}}, was},
	} {
		if got, e := Apply(was, x.l); e != api.OK || !slices.Equal(got, x.want) {
			t.Error(k, got, e)
		}
	}
	for k, l := range [][]api.Move{
		{{Part: 3, From: "", To: "x"}},
		{{Part: -1, From: "a", To: "x"}},
		{{Part: 0, From: "b", To: "x"}},
		{{Part: 1, From: "b", To: "x"}, {Part: 1, From: "b", To: "y"}},
		{{Part: 0, From: "a", To: "x"}, {Part: 1, From: "x", To: "y"}},
	} {
		if got, e := Apply(was, l); e != api.ErrArg || len(got) != 0 {
			t.Error(k, got, e)
		}
	}
	if got, e := Apply(nil, nil); e != api.OK || len(got) != 0 {
		t.Error(got, e)
	}
	got, _ := Apply(was, nil)
	got[0] = "changed"
	if !slices.Equal(was, []string{"a", "b", "c"}) {
		t.Error(was)
	}
}

func TestGainsAndRests(t *testing.T) {
	was, now := []string{"a", "b", "a", ""}, []string{"c", "b", "b", "d", "", "c", "a"}
	if got := Gains(was, now); !slices.Equal(got, []string{"c", "d", "c"}) {
		t.Error(got)
	}
	if got := Rests(was, now); !slices.Equal(got, []string{"b", "b", "", "a"}) {
		t.Error(got)
	}
	if got := Gains(nil, now); !slices.Equal(got, now) || len(Rests(nil, now)) != 0 {
		t.Error(got)
	}
	if len(Gains(was, nil))+len(Rests(was, nil)) != 0 {
		t.Error("of nothing")
	}
	if !slices.Equal(was, []string{"a", "b", "a", ""}) || !slices.Equal(now, []string{"c", "b", "b", "d", "", "c", "a"}) {
		t.Error("changed", was, now)
	}
}

func TestWhatIsPlannedLeadsThere(t *testing.T) {
	r := rand.New(rand.NewPCG(21, 22))
	for range 500 {
		var was, now []string
		for range r.IntN(9) {
			was = append(was, string(rune('a'+r.IntN(3))))
			now = append(now, string(rune('a'+r.IntN(3))))
		}
		plan := Plan(was, now)
		r.Shuffle(len(plan), func(a, b int) { plan[a], plan[b] = plan[b], plan[a] })
		if got, e := Apply(was, plan); e != api.OK || !slices.Equal(got, now) {
			t.Fatal(was, now, got, e)
		}
		for k, m := range plan {
			plan[k] = api.Move{Part: m.Part, From: m.To, To: m.From}
		}
		if got, e := Apply(now, plan); e != api.OK || !slices.Equal(got, was) {
			t.Fatal("turned round", was, now, got, e)
		}
		if n := len(Gains(was, now)) + len(Rests(was, now)); n != len(now) {
			t.Fatal(was, now, n)
		}
	}
}
