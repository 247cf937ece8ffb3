package last

import (
	"math/rand/v2"
	"pantler/api"
	"slices"
	"testing"
)

func sib(node string, n, time int) api.Sib {
	return api.Sib{Dot: api.Dot{Node: node, N: n}, Value: node, Time: time}
}

func gone(node string, n, time int) api.Sib {
	return api.Sib{Dot: api.Dot{Node: node, N: n}, Gone: true, Time: time}
}

func TestLater(t *testing.T) {
	rising := []api.Sib{sib("z", 9, -1), sib("", 5, 0), sib("a", 1, 0), sib("a", 2, 0), sib("ab", 0, 0), sib("b", 1, 0), sib("a", 1, 1), sib("a", 1, api.MaxTime)}
	for k, a := range rising {
		for m, b := range rising {
			if Later(a, b) != (k > m) {
				t.Error(a, b)
			}
		}
	}
	// Neither the bytes nor what is gone tell who is later.
	a, b := sib("a", 1, 1), gone("a", 1, 1)
	if Later(a, b) || Later(b, a) {
		t.Error("of one time, node and number one is later")
	}
}

func TestLatest(t *testing.T) {
	if s, ok := Latest(nil); ok || s != (api.Sib{}) {
		t.Error("of nothing", s)
	}
	first, second := sib("b", 2, 5), gone("b", 2, 5)
	for _, x := range []struct {
		l    []api.Sib
		want api.Sib
	}{
		{[]api.Sib{sib("a", 1, -3)}, sib("a", 1, -3)},
		{[]api.Sib{sib("a", 1, 4), first, sib("b", 1, 5), second}, first},
		{[]api.Sib{second, sib("a", 9, 5), first}, second},
		{[]api.Sib{sib("a", 1, 6), first}, sib("a", 1, 6)},
	} {
		if s, ok := Latest(x.l); !ok || s != x.want {
			t.Error(x, s)
		}
	}
}

func TestLiveAndAnswer(t *testing.T) {
	a, b, c := sib("a", 1, 1), sib("b", 1, 7), gone("c", 1, 5)
	l := []api.Sib{b, c, a}
	if got := Live(l); !slices.Equal(got, []api.Sib{b, a}) {
		t.Error(got)
	}
	if len(Live(nil)) != 0 || len(Live([]api.Sib{c})) != 0 {
		t.Error("what is gone lives")
	}
	for k, x := range []struct {
		sibs    []api.Sib
		several bool
		want    []api.Sib
	}{
		{l, true, []api.Sib{b, a}},
		{l, false, []api.Sib{b}},
		{[]api.Sib{a, c}, true, []api.Sib{a}},
		{[]api.Sib{a, c}, false, nil},
		{nil, true, nil},
		{nil, false, nil},
		{[]api.Sib{c}, true, nil},
	} {
		if got := Answer(api.Obj{Sibs: x.sibs}, x.several); !slices.Equal(got, x.want) {
			t.Error(k, got)
		}
	}
}

func TestAnswersAreNewMemory(t *testing.T) {
	l := []api.Sib{sib("a", 1, 1), gone("b", 1, 1), sib("c", 1, 1)}
	was := slices.Clone(l)
	for _, got := range [][]api.Sib{Live(l), Live(l[:1]), Answer(api.Obj{Sibs: l}, true), Answer(api.Obj{Sibs: l}, false)} {
		got[0].Value = "changed"
		_ = append(got, api.Sib{})
	}
	if !slices.Equal(l, was) {
		t.Error(l)
	}
}

func TestApart(t *testing.T) {
	a, b := sib("a", 1, 0), sib("b", 2, 0)
	knowsA, knowsB := []api.Seen{{Node: "a", Base: 1}}, []api.Seen{{Node: "b", More: []int{2}}}
	for k, x := range []struct {
		l     []api.Sib
		known [][]api.Seen
		want  bool
	}{
		{nil, nil, true},
		{[]api.Sib{a}, [][]api.Seen{knowsA}, true},
		{[]api.Sib{a}, nil, false},
		{nil, [][]api.Seen{nil}, false},
		{[]api.Sib{a, b}, [][]api.Seen{nil, nil}, true},
		{[]api.Sib{a, b}, [][]api.Seen{knowsA, knowsB}, true},
		{[]api.Sib{a, b}, [][]api.Seen{knowsB, nil}, false},
		{[]api.Sib{a, b}, [][]api.Seen{nil, knowsA}, false},
		{[]api.Sib{a, a}, [][]api.Seen{knowsA, nil}, false},
		{[]api.Sib{a, b}, [][]api.Seen{nil, nil, nil}, false},
	} {
		if Apart(x.l, x.known) != x.want {
			t.Error(k)
		}
	}
}

func TestOneOfUnlikeDotsIsLater(t *testing.T) {
	r := rand.New(rand.NewPCG(5, 6))
	for range 2000 {
		var l []api.Sib
		for range r.IntN(6) {
			s := sib(string(rune('a'+r.IntN(3))), r.IntN(3), r.IntN(3))
			s.Gone = r.IntN(3) == 0
			l = append(l, s)
		}
		latest, ok := Latest(l)
		if ok != (len(l) > 0) {
			t.Fatal(l)
		}
		for _, s := range l {
			if s.Dot != latest.Dot && Later(s, latest) == Later(latest, s) || Later(s, latest) {
				t.Fatal(s, latest)
			}
		}
		for _, s := range Answer(api.Obj{Sibs: l}, false) {
			if s != latest || !slices.Contains(Answer(api.Obj{Sibs: l}, true), s) {
				t.Fatal(l)
			}
		}
	}
}
