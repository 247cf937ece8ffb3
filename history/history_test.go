package history

import (
	"fmt"
	"math/rand/v2"
	"pantler/api"
	"pantler/cluster"
	"pantler/token"
	"reflect"
	"slices"
	"strings"
	"testing"
)

func seen(node string, base int, more ...int) api.Seen {
	return api.Seen{Node: node, Base: base, More: more}
}

func dot(node string, n int) api.Dot { return api.Dot{Node: node, N: n} }

// write is a good put of a value of its dot's letter, by a writer who knew a context.
func write(d api.Dot, begin, end int, ctx ...api.Seen) api.Deed {
	return api.Deed{Node: d.Node, Lane: "t", Begin: begin, End: end, Done: true, Call: api.Call{Kind: api.CallPut, Bucket: "b", Key: "k", Value: d.Node, Time: d.N, Ctx: ctx}, Answer: api.Answer{Dot: d}}
}

// read is a good get that was told values of dots.
func read(begin, end int, ctx []api.Seen, l ...api.Dot) api.Deed {
	d := api.Deed{Node: "r", Lane: "t", Begin: begin, End: end, Done: true, Call: api.Call{Kind: api.CallGet, Bucket: "b", Key: "k"}, Answer: api.Answer{Ctx: ctx}}
	for _, x := range l {
		d.Answer.Sibs = append(d.Answer.Sibs, api.Sib{Dot: x, Value: x.Node, Time: x.N})
	}
	return d
}

func with(d api.Deed, change func(d *api.Deed)) api.Deed {
	change(&d)
	return d
}

func TestOfAndUnanswered(t *testing.T) {
	a := write(dot("a", 1), 1, 2)
	l := []api.Deed{a, with(a, func(d *api.Deed) { d.Lane = "u" }), with(a, func(d *api.Deed) { d.Call.Key = "l" }), with(a, func(d *api.Deed) { d.Done, d.Op = false, 9 }), with(a, func(d *api.Deed) { d.Call.Bucket = "c" })}
	got := Of(l, "t", "b/k")
	if len(got) != 2 || got[1].Op != 9 || !reflect.DeepEqual(got[0], a) {
		t.Error(got)
	}
	if len(Of(l, "t", "b"))+len(Of(nil, "t", "b/k"))+len(Of(l, "", "b/k")) != 0 {
		t.Error("deeds of nothing")
	}
	got[0].Lane = "changed"
	if l[0].Lane != "t" {
		t.Error("changed")
	}
	if Unanswered(l) != 1 || Unanswered(nil) != 0 {
		t.Error(Unanswered(l))
	}
}

func TestPut(t *testing.T) {
	w, r := write(dot("a", 1), 3, 9), read(1, 4, nil)
	s := api.Sib{Dot: dot("a", 1), Value: "a", Time: 1}
	if !Put([]api.Deed{r, w}, r, s) {
		t.Error("not put")
	}
	for k, change := range []func(w, r *api.Deed, s *api.Sib){
		func(w, r *api.Deed, s *api.Sib) { w.Call.Kind = api.CallGet },
		func(w, r *api.Deed, s *api.Sib) { w.Call.Kind = api.CallList },
		func(w, r *api.Deed, s *api.Sib) { w.Call.Kind = api.CallDelete },
		func(w, r *api.Deed, s *api.Sib) { w.Lane = "u" },
		func(w, r *api.Deed, s *api.Sib) { r.Call.Key = "l" },
		func(w, r *api.Deed, s *api.Sib) { w.Call.Bucket = "c" },
		func(w, r *api.Deed, s *api.Sib) { w.Node = "b" },
		func(w, r *api.Deed, s *api.Sib) { w.Begin = 4 },
		func(w, r *api.Deed, s *api.Sib) { r.End = 3 },
		func(w, r *api.Deed, s *api.Sib) { s.Value = "b" },
		func(w, r *api.Deed, s *api.Sib) { s.Time = 2 },
		func(w, r *api.Deed, s *api.Sib) { s.Gone = true },
		func(w, r *api.Deed, s *api.Sib) { s.Dot.N = 2 },
		func(w, r *api.Deed, s *api.Sib) { s.Dot.Node = "b" },
		func(w, r *api.Deed, s *api.Sib) { w.Answer.Dot.N = 2 },
	} {
		w, r, s := w, r, s
		change(&w, &r, &s)
		if Put([]api.Deed{w}, r, s) {
			t.Error("put", k)
		}
	}
	for k, change := range []func(w *api.Deed, s *api.Sib){
		func(w *api.Deed, s *api.Sib) { w.Call.Kind, s.Gone = api.CallDelete, true },
		func(w *api.Deed, s *api.Sib) { w.Done, w.Answer.Dot = false, api.Dot{} },
		func(w *api.Deed, s *api.Sib) { w.Answer = api.Answer{Err: api.ErrTime} },
		func(w *api.Deed, s *api.Sib) { w.End = 99 },
	} {
		w, s := w, s
		change(&w, &s)
		if !Put([]api.Deed{w}, r, s) {
			t.Error("not put", k)
		}
	}
}

func TestClosed(t *testing.T) {
	first := write(dot("a", 1), 1, 2)
	second := write(dot("b", 1), 3, 4, seen("a", 1))
	good := write(dot("c", 1), 5, 6, seen("a", 1), seen("b", 1))
	bad := write(dot("c", 1), 5, 6, seen("b", 1))
	for k, x := range []struct {
		l    []api.Deed
		want bool
	}{
		{nil, true},
		{[]api.Deed{first, second, good}, true},
		{[]api.Deed{first, second, bad}, false},
		{[]api.Deed{bad, second}, false},
		{[]api.Deed{first, bad}, true},
		{[]api.Deed{second, with(bad, func(d *api.Deed) { d.Done = false })}, false},
		{[]api.Deed{second, with(bad, func(d *api.Deed) { d.Call.Kind = api.CallDelete })}, false},
		{[]api.Deed{second, with(bad, func(d *api.Deed) { d.Call.Kind = api.CallGet })}, true},
		{[]api.Deed{with(second, func(d *api.Deed) { d.Done = false }), bad}, true},
		{[]api.Deed{with(second, func(d *api.Deed) { d.Answer.Err = api.ErrTime }), bad}, true},
		{[]api.Deed{with(second, func(d *api.Deed) { d.Call.Kind = api.CallGet }), bad}, true},
		{[]api.Deed{with(second, func(d *api.Deed) { d.Lane = "u" }), bad}, true},
		{[]api.Deed{with(second, func(d *api.Deed) { d.Call.Key = "l" }), bad}, true},
	} {
		if Closed(x.l) != x.want {
			t.Error(k)
		}
	}
}

func TestCausal(t *testing.T) {
	a, b := write(dot("a", 1), 1, 2), write(dot("b", 1), 3, 4, seen("a", 1))
	ctxA, both := []api.Seen{seen("a", 1)}, []api.Seen{seen("a", 1), seen("b", 1)}
	for k, x := range []struct {
		l    []api.Deed
		want bool
	}{
		{nil, true},
		{[]api.Deed{a, read(3, 4, ctxA, dot("a", 1))}, true},
		{[]api.Deed{read(3, 4, ctxA, dot("a", 1))}, false},
		{[]api.Deed{a, read(3, 4, nil, dot("a", 1))}, false},
		{[]api.Deed{a, read(0, 1, ctxA, dot("a", 1))}, false},
		{[]api.Deed{a, read(3, 4, ctxA, dot("a", 2))}, false},
		{[]api.Deed{a, b, read(5, 6, both, dot("b", 1))}, true},
		{[]api.Deed{a, b, read(5, 6, ctxA, dot("a", 1))}, true},
		{[]api.Deed{a, b, read(5, 6, both, dot("a", 1))}, false},
		{[]api.Deed{a, b, read(5, 6, both, dot("b", 1), dot("a", 1))}, false},
		{[]api.Deed{a, with(b, func(d *api.Deed) { d.Done = false }), read(5, 6, both, dot("a", 1))}, true},
		{[]api.Deed{a, with(b, func(d *api.Deed) { d.Call.Key = "l" }), read(5, 6, both, dot("a", 1))}, true},
		{[]api.Deed{read(5, 6, both)}, true},
		{[]api.Deed{with(read(5, 6, both, dot("x", 1)), func(d *api.Deed) { d.Done = false })}, true},
		{[]api.Deed{with(read(5, 6, both, dot("x", 1)), func(d *api.Deed) { d.Answer.Err = api.ErrNone })}, true},
		{[]api.Deed{with(read(5, 6, both, dot("x", 1)), func(d *api.Deed) { d.Call.Kind = api.CallList })}, true},
		{[]api.Deed{a, b, with(read(5, 6, both, dot("a", 1)), func(d *api.Deed) { d.Answer.Err = api.ErrNone })}, true},
		{[]api.Deed{a, b, with(read(5, 6, both, dot("a", 1)), func(d *api.Deed) { d.Call.Kind = api.CallList })}, true},
		{[]api.Deed{with(a, func(d *api.Deed) { d.Call.Kind = api.CallDelete }), with(read(5, 6, ctxA, dot("a", 1)), func(d *api.Deed) { d.Answer.Sibs[0].Gone = true })}, false},
	} {
		if Causal(x.l) != x.want {
			t.Error(k)
		}
	}
	// Where writers do not know what those knew whose writes they knew, nothing is asked of what is replaced.
	open := []api.Deed{a, b, write(dot("c", 1), 5, 6, seen("b", 1)), read(5, 6, both, dot("a", 1))}
	if Closed(open) || !Causal(open) {
		t.Error("not closed")
	}
}

func TestCovers(t *testing.T) {
	w := write(dot("a", 1), 1, 4)
	knows, knowsNot := read(5, 6, []api.Seen{seen("a", 1)}), read(5, 6, []api.Seen{seen("b", 1)})
	for k, x := range []struct {
		l    []api.Deed
		want bool
	}{
		{nil, true},
		{[]api.Deed{w, knows}, true},
		{[]api.Deed{knowsNot, w}, false},
		{[]api.Deed{w, with(knowsNot, func(d *api.Deed) { d.Begin = 4 })}, true},
		{[]api.Deed{w, with(knowsNot, func(d *api.Deed) { d.Answer.Err = api.ErrNone })}, false},
		{[]api.Deed{w, with(knowsNot, func(d *api.Deed) { d.Answer.Err = api.ErrQuorum })}, true},
		{[]api.Deed{w, with(knowsNot, func(d *api.Deed) { d.Done = false })}, true},
		{[]api.Deed{w, with(knowsNot, func(d *api.Deed) { d.Call.Kind = api.CallList })}, true},
		{[]api.Deed{w, with(knowsNot, func(d *api.Deed) { d.Lane = "u" })}, true},
		{[]api.Deed{w, with(knowsNot, func(d *api.Deed) { d.Call.Bucket = "c" })}, true},
		{[]api.Deed{with(w, func(d *api.Deed) { d.Done = false }), knowsNot}, true},
		{[]api.Deed{with(w, func(d *api.Deed) { d.Answer.Err = api.ErrTime }), knowsNot}, true},
		{[]api.Deed{with(w, func(d *api.Deed) { d.Call.Kind = api.CallDelete }), knowsNot}, false},
		{[]api.Deed{with(w, func(d *api.Deed) { d.Call.Kind = api.CallGet }), knowsNot}, true},
	} {
		if Covers(x.l) != x.want {
			t.Error(k)
		}
	}
}

// run is what comes of events at random of a tenant's calls, by writers who know what they read.
func run(r *rand.Rand, strict bool) []api.Deed {
	entry := func(key, value string) api.Entry { return api.Entry{Key: key, Reg: api.Reg{N: 1, Value: value}} }
	s := api.Setup{Entries: []api.Entry{entry("acl/t/b/all", "rwl"), entry("tenant/t/burst", "1000"), entry("tenant/t/queue", "64"), entry("tenant/t/secret", "x")}}
	if strict {
		s.Entries = append(s.Entries, entry("prop/t/b/pr", "2"), entry("prop/t/b/pw", "2"))
	}
	slices.SortFunc(s.Entries, func(a, b api.Entry) int { return strings.Compare(a.Key, b.Key) })
	for k := range 3 + r.IntN(2) {
		s.Members = append(s.Members, api.Member{Name: fmt.Sprint("n", k), Rack: "r", Zone: "z", Up: true})
	}
	c, _ := cluster.New(s)
	ctx := map[string][]api.Seen{}
	for k := range 900 {
		node, key := fmt.Sprint("n", r.IntN(len(s.Members))), fmt.Sprint("k", r.IntN(2))
		switch m := r.IntN(60); {
		case m < 6:
			x := api.Call{Kind: 1 + r.IntN(3), Token: token.Make("x", "t", "u", 1<<40), Bucket: "b", Key: key}
			if x.Kind != api.CallGet {
				x.Ctx, x.Time = ctx[key], r.IntN(9)
			}
			if x.Kind == api.CallPut {
				x.Value = fmt.Sprint(k)
			}
			c.Step(api.Event{Kind: api.EvCall, Node: node, Lane: "t", Call: x})
		case m < 36:
			c.Step(api.Event{Kind: api.EvDeliver, Lane: "t", N: r.IntN(2)})
		case m < 56:
			c.Step(api.Event{Kind: api.EvFlush, Node: node, Lane: "t"})
		case m < 57:
			c.Step(api.Event{Kind: api.EvCrash, Node: node, N: r.IntN(99)})
			c.Step(api.Event{Kind: api.EvStart, Node: node})
			c.Step(api.Event{Kind: api.EvTick, Node: node})
		case m < 58:
			c.Step(api.Event{Kind: api.EvExchange, Node: node, To: "n0", Lane: "t"})
		default:
			for _, d := range c.Deeds() {
				if d.Call.Kind == api.CallGet && d.Done && d.Answer.Err == api.OK && r.IntN(3) == 0 {
					ctx[d.Call.Key] = d.Answer.Ctx
				}
			}
		}
	}
	return c.Deeds()
}

func TestWhatClustersTellIsCausal(t *testing.T) {
	r := rand.New(rand.NewPCG(51, 52))
	told := 0
	for k := range 30 {
		l := run(r, k%2 == 0)
		if !Causal(l) || k%2 == 0 && !Covers(l) {
			t.Fatal(k, "not causal")
		}
		// All is told of each place alone.
		closed, covers := true, true
		for _, key := range []string{"b/k0", "b/k1", "b/"} {
			closed, covers = closed && Closed(Of(l, "t", key)), covers && Covers(Of(l, "t", key))
		}
		if closed != Closed(l) || covers != Covers(l) {
			t.Fatal(k, "not place by place")
		}
		unknown := write(dot("n9", 1), 1, 0)
		unknown.Done = false
		if more := append(l, unknown); !Causal(more) || Closed(more) != closed || Covers(more) != covers {
			t.Fatal(k, "a write that was not answered changes something")
		}
		for _, d := range l {
			told += len(d.Answer.Sibs)
		}
	}
	if told < 300 {
		t.Error("too little was told", told)
	}
}
