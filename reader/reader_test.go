package reader

import (
	"math/rand/v2"
	"pantler/api"
	"pantler/last"
	"pantler/object"
	"pantler/quorum"
	"slices"
	"testing"
)

func choices(names ...string) []api.Choice {
	var l []api.Choice
	for _, name := range names {
		l = append(l, api.Choice{Node: name, Primary: true})
	}
	return l
}

func props(n, r int) api.Props {
	return api.Props{N: n, R: r, W: 1, Several: true, Missing: true}
}

// obj is the object of one write that knew nothing.
func obj(node string, time int) api.Obj {
	o, _ := object.New(nil, api.Sib{Dot: api.Dot{Node: node, N: 1}, Value: node, Time: time})
	return o
}

func merged(l ...api.Obj) api.Obj {
	var all api.Obj
	for _, o := range l {
		all, _ = object.Merge(all, o)
	}
	return all
}

func empty(o api.Obj) bool { return len(o.Ctx)+len(o.Sibs) == 0 }

func TestAReadThatIsMet(t *testing.T) {
	r := New(props(3, 2), choices("a", "b", "c"))
	if r.State() != api.Waits || !r.Open() || !empty(r.Whole()) || len(r.Told())+len(r.Stale()) > 0 {
		t.Error("a new read")
	}
	x, y := obj("n1", 1), obj("n2", 2)
	r.Found("b", x)
	if r.State() != api.Waits || len(r.Told()) > 0 || !object.Same(r.Whole(), x) || len(r.Stale()) > 0 {
		t.Error("behind one answer")
	}
	r.Found("c", y)
	all := merged(x, y)
	if r.State() != api.Met || !object.Same(r.Whole(), all) || !slices.Equal(r.Told(), all.Sibs) || !slices.Equal(r.Stale(), []string{"b", "c"}) || !r.Open() {
		t.Error("behind two answers", r.Stale())
	}
	r.Found("a", all)
	if r.State() != api.Met || r.Open() || !slices.Equal(r.Stale(), []string{"b", "c"}) {
		t.Error("behind all answers", r.Stale())
	}
}

func TestOneValueMayBeTold(t *testing.T) {
	p := props(2, 2)
	p.Several = false
	r := New(p, choices("a", "b"))
	r.Found("a", obj("n1", 5))
	r.Found("b", obj("n2", 4))
	if got := r.Told(); len(got) != 1 || got[0].Value != "n1" {
		t.Error(got)
	}
}

func TestWhatWasDecidedStays(t *testing.T) {
	x := obj("n1", 1)
	met := New(props(3, 1), choices("a", "b", "c"))
	met.Found("a", x)
	met.Refused("b")
	met.Refused("c")
	if met.State() != api.Met || met.Open() || len(met.Told()) != 1 {
		t.Error("met", met.State())
	}
	absent := New(props(3, 1), choices("a", "b", "c"))
	absent.Missing("a")
	absent.Found("b", x)
	if absent.State() != api.Absent || len(absent.Told()) != 0 || !object.Same(absent.Whole(), x) || !slices.Equal(absent.Stale(), []string{"a"}) {
		t.Error("absent", absent.State(), absent.Stale())
	}
	p := props(3, 3)
	p.Missing, p.Basic = false, true
	unmet := New(p, choices("a", "b", "c"))
	unmet.Refused("a")
	unmet.Missing("b")
	unmet.Missing("c")
	if unmet.State() != api.Unmet || len(unmet.Told()) != 0 {
		t.Error("unmet", unmet.State())
	}
	for want, r := range map[int]*Reader{api.Unmet: New(props(3, 1), nil), api.Absent: New(props(3, 0), choices("a")), api.Waits: New(props(3, 1), choices("a"))} {
		if r.State() != want {
			t.Error("at once", want, r.State())
		}
	}
}

func TestANodeAnswersOnce(t *testing.T) {
	x, y := obj("n1", 1), obj("n2", 2)
	r := New(props(3, 2), choices("a", "b", "c"))
	r.Found("a", x)
	r.Found("a", y)
	r.Missing("a")
	r.Refused("a")
	r.Found("d", y)
	r.Missing("")
	if r.State() != api.Waits || !object.Same(r.Whole(), x) || !r.Open() {
		t.Error(r.State(), r.Whole())
	}
	r.Missing("b")
	r.Found("b", y)
	if r.State() != api.Met || !object.Same(r.Whole(), x) || !slices.Equal(r.Stale(), []string{"b"}) {
		t.Error(r.State(), r.Whole(), r.Stale())
	}
	// Of an entry that stands twice the node is stale once.
	twice := New(props(3, 3), choices("b", "a", "b"))
	twice.Found("a", x)
	twice.Missing("b")
	if twice.State() != api.Met || !slices.Equal(twice.Stale(), []string{"b"}) || twice.Open() {
		t.Error(twice.State(), twice.Stale())
	}
}

func TestNobodyIsStaleWhereNothingWasFound(t *testing.T) {
	r := New(props(2, 2), choices("a", "b"))
	r.Missing("a")
	r.Missing("b")
	if r.State() != api.Absent || len(r.Stale()) != 0 || !empty(r.Whole()) {
		t.Error(r.State(), r.Stale())
	}
	// An object of nothing was found all the same.
	r = New(props(2, 2), choices("a", "b"))
	r.Missing("a")
	r.Found("b", api.Obj{})
	if r.State() != api.Met || !slices.Equal(r.Stale(), []string{"a"}) {
		t.Error(r.State(), r.Stale())
	}
}

func TestBadObjectsAreRefusals(t *testing.T) {
	var more []int
	for k := range api.MaxDots {
		more = append(more, 2*k+2)
	}
	full, long := api.Obj{Ctx: []api.Seen{{Node: "a", More: more}}}, api.Obj{Ctx: []api.Seen{{Node: "b", More: []int{2}}}}
	for k, o := range []api.Obj{{Ctx: []api.Seen{{Node: "A", Base: 1}}}, long} {
		r := New(props(2, 2), choices("a", "b"))
		r.Found("a", full)
		r.Found("b", o)
		if r.State() != api.Unmet || !object.Same(r.Whole(), full) || len(r.Stale()) != 0 || r.Open() {
			t.Error(k, r.State(), r.Stale())
		}
		r.Found("b", full)
		if r.State() != api.Unmet {
			t.Error("answered twice")
		}
	}
}

func TestNilAndZero(t *testing.T) {
	for _, r := range []*Reader{nil, {}} {
		r.Found("a", obj("n1", 1))
		r.Missing("a")
		r.Refused("")
		if r.State() != api.Waits || !empty(r.Whole()) || len(r.Told())+len(r.Stale()) > 0 || r.Open() {
			t.Error("a read that is none")
		}
	}
}

func TestNothingIsShared(t *testing.T) {
	l := choices("a", "b")
	r := New(props(2, 1), l)
	l[0].Node = "changed"
	o := obj("n1", 1)
	r.Found("a", o)
	o.Sibs[0].Value, o.Ctx[0].Base = "changed", 9
	r.Told()[0].Value = "changed"
	w := r.Whole()
	w.Ctx[0].Node, w.Sibs[0].Value = "changed", "changed"
	if !object.Same(r.Whole(), obj("n1", 1)) || r.Told()[0].Value != "n1" || len(r.Stale()) != 0 {
		t.Error(r.Whole(), r.Stale())
	}
}

func TestSomeReads(t *testing.T) {
	random := rand.New(rand.NewPCG(39, 40))
	nodes := []string{"a", "b", "c", "d"}
	for range 2000 {
		p := props(4, random.IntN(5))
		p.Several, p.Missing, p.Basic, p.PR = random.IntN(2) == 0, random.IntN(2) == 0, random.IntN(2) == 0, random.IntN(3)
		l := choices(nodes[:random.IntN(5)]...)
		for k := range l {
			l[k].Primary = random.IntN(2) == 0
		}
		r := New(p, l)
		answers := map[int][]string{}
		var whole api.Obj
		state := quorum.Read(p, l, nil, nil, nil)
		for _, k := range random.Perm(4) {
			node, kind := nodes[k], random.IntN(3)
			o := obj(string(rune('n'+random.IntN(3))), random.IntN(3))
			switch kind {
			case 0:
				r.Found(node, o)
			case 1:
				r.Missing(node)
			default:
				r.Refused(node)
			}
			if k < len(l) {
				answers[kind] = append(answers[kind], node)
				if kind == 0 {
					whole = merged(whole, o)
				}
				if state == api.Waits {
					state = quorum.Read(p, l, answers[0], answers[1], answers[2])
				}
			}
			var told []api.Sib
			if state == api.Met {
				told = last.Answer(whole, p.Several)
			}
			if r.State() != state || !object.Same(r.Whole(), whole) || !slices.Equal(r.Told(), told) {
				t.Fatal(p, l, answers, r.State(), state)
			}
		}
		if r.Open() {
			t.Fatal("open")
		}
	}
}
