package lister

import (
	"math/rand/v2"
	"pantler/api"
	"pantler/object"
	"slices"
	"testing"
)

// item is an item of one value, whose writer knew a context.
func item(place string, ctx []api.Seen, node string, n int, gone bool) api.Item {
	o, _ := object.New(ctx, api.Sib{Dot: api.Dot{Node: node, N: n}, Gone: gone})
	return api.Item{Place: place, Obj: o}
}

func TestKeysAreGathered(t *testing.T) {
	l := New("b", []string{"n1", "n2"})
	if l.State() != api.Waits || len(l.Keys()) != 0 {
		t.Error("a new list")
	}
	l.Has("n2", []api.Item{item("a/x", nil, "a", 1, false), item("b/x", nil, "a", 1, false), item("b/z/", nil, "a", 1, false), item("c/x", nil, "a", 1, false)})
	if l.State() != api.Waits || len(l.Keys()) != 0 {
		t.Error("behind one answer", l.Keys())
	}
	l.Has("n2", []api.Item{item("b/twice", nil, "a", 1, false)})
	l.Has("n3", []api.Item{item("b/other", nil, "a", 1, false)})
	l.Refused("n3")
	l.Refused("n2")
	if l.State() != api.Waits {
		t.Error("a node answers once")
	}
	l.Has("n1", []api.Item{item("b/a", nil, "b", 1, false), item("b/x", nil, "b", 1, true), item("b/y", nil, "b", 1, true)})
	if got := l.Keys(); l.State() != api.Met || !slices.Equal(got, []string{"a", "x", "z/"}) {
		t.Error(l.State(), got)
	}
	l.Refused("n1")
	if l.State() != api.Met {
		t.Error("refused behind its answer")
	}
}

func TestWhatIsGoneIsNotTold(t *testing.T) {
	had := item("b/x", nil, "a", 1, false)
	gone := item("b/x", had.Obj.Ctx, "b", 1, true)
	for _, order := range [][]api.Item{{had, gone}, {gone, had}} {
		l := New("b", []string{"n1", "n2"})
		l.Has("n1", order[:1])
		l.Has("n2", order[1:])
		if l.State() != api.Met || len(l.Keys()) != 0 {
			t.Error(l.State(), l.Keys())
		}
	}
}

func TestRefusals(t *testing.T) {
	var more []int
	for k := range api.MaxDots {
		more = append(more, 2*k+2)
	}
	full := []api.Item{{Place: "b/x", Obj: api.Obj{Ctx: []api.Seen{{Node: "a", More: more}}}}}
	for k, items := range [][]api.Item{{{Place: "b"}}, {{Place: "b/b"}, {Place: "b/a"}}, {item("b/x", nil, "b", 2, false)}, {{Place: "b/x", Obj: api.Obj{Ctx: []api.Seen{{Node: "A", Base: 1}}}}}} {
		l := New("b", []string{"n1", "n2"})
		l.Has("n1", full)
		l.Has("n2", items)
		if l.State() != api.Unmet || len(l.Keys()) != 0 {
			t.Error(k, l.State())
		}
		l.Has("n2", nil)
		if l.State() != api.Unmet {
			t.Error("answered twice", k)
		}
	}
	l := New("b", []string{"n1", "n2"})
	l.Refused("n1")
	if l.State() != api.Unmet {
		t.Error(l.State())
	}
	l.Has("n2", nil)
	if l.State() != api.Unmet || len(l.Keys()) != 0 {
		t.Error(l.State())
	}
}

func TestOfNobody(t *testing.T) {
	if l := New("b", nil); l.State() != api.Met || len(l.Keys()) != 0 {
		t.Error(l.State())
	}
	l := New("b", []string{"n", "n"})
	l.Has("n", []api.Item{item("b/x", nil, "a", 1, false)})
	if l.State() != api.Met || !slices.Equal(l.Keys(), []string{"x"}) {
		t.Error(l.State(), l.Keys())
	}
	for _, l := range []*Lister{nil, {}} {
		l.Has("n", nil)
		l.Has("", nil)
		l.Refused("n")
		if l.State() != api.Waits || len(l.Keys()) != 0 {
			t.Error("a list that is none")
		}
	}
}

func TestNothingIsShared(t *testing.T) {
	nodes, items := []string{"n1", "n2"}, []api.Item{item("b/x", nil, "a", 1, false)}
	l := New("b", nodes)
	nodes[0] = "changed"
	l.Has("n1", items)
	items[0].Place, items[0].Obj.Sibs[0].Gone = "b/y", true
	l.Has("n2", nil)
	if got := l.Keys(); !slices.Equal(got, []string{"x"}) {
		t.Error(got)
	}
}

func TestWhicheverAnsweredFirst(t *testing.T) {
	r := rand.New(rand.NewPCG(43, 44))
	for range 300 {
		nodes := []string{"a", "b", "c"}
		answers := map[string][]api.Item{}
		for _, node := range nodes {
			for _, place := range []string{"b/1", "b/2", "b/3", "c/1"} {
				if r.IntN(2) == 0 {
					var ctx []api.Seen
					if r.IntN(2) == 0 {
						ctx = []api.Seen{{Node: nodes[r.IntN(3)], Base: 1}}
					}
					answers[node] = append(answers[node], item(place, ctx, node, 2, r.IntN(3) == 0))
				}
			}
		}
		var want []string
		for k := range 6 {
			l := New("b", nodes)
			for m := range 3 {
				node := nodes[(k/2+m*(1+k%2))%3]
				l.Has(node, answers[node])
			}
			if k == 0 {
				want = l.Keys()
			}
			if l.State() != api.Met || !slices.Equal(l.Keys(), want) {
				t.Fatal(k, l.Keys(), want)
			}
		}
	}
}
