package writer

import (
	"math/rand/v2"
	"pantler/api"
	"pantler/quorum"
	"testing"
)

func choices(names ...string) []api.Choice {
	var l []api.Choice
	for _, name := range names {
		l = append(l, api.Choice{Node: name, Primary: name < "c"})
	}
	return l
}

func props(w, pw int) api.Props { return api.Props{N: 3, R: 1, W: w, PW: pw} }

// is tells what a write came to, in short.
func is(w *Writer, state int, e api.Errno, open bool) bool {
	return w.State() == state && w.Err() == e && w.Open() == open
}

func TestAWriteThatIsMet(t *testing.T) {
	w := New(props(2, 0), choices("a", "b", "c"))
	if !is(w, api.Waits, api.OK, true) {
		t.Error("a new write")
	}
	w.Done("b")
	w.Done("b")
	w.Refused("b", api.ErrQuota)
	w.Done("x")
	if !is(w, api.Waits, api.OK, true) {
		t.Error("one node answered")
	}
	w.Refused("a", api.ErrQuota)
	if !is(w, api.Waits, api.OK, true) {
		t.Error("one refused")
	}
	w.Done("c")
	if !is(w, api.Met, api.OK, false) {
		t.Error("two wrote")
	}
	w.Done("a")
	if !is(w, api.Met, api.OK, false) {
		t.Error("answered twice")
	}
}

func TestWhatWasDecidedStays(t *testing.T) {
	w := New(props(1, 0), choices("a", "b"))
	w.Done("a")
	w.Refused("b", api.ErrQuota)
	if !is(w, api.Met, api.OK, false) {
		t.Error(w.State())
	}
	w = New(props(1, 1), choices("a", "c", "d"))
	w.Refused("a", api.ErrDown)
	w.Done("c")
	w.Done("d")
	if !is(w, api.Unmet, api.ErrQuorum, false) {
		t.Error(w.State())
	}
}

func TestWhyItIsUnmet(t *testing.T) {
	for k, x := range []struct {
		refusals []api.Errno
		want     api.Errno
	}{
		{[]api.Errno{api.ErrDown, api.ErrArg}, api.ErrQuorum},
		{[]api.Errno{api.ErrQuota, api.ErrDown}, api.ErrQuota},
		{[]api.Errno{api.ErrDown, api.ErrQuota}, api.ErrQuota},
		{[]api.Errno{api.ErrDown, api.ErrDown, api.ErrQuota}, api.ErrQuorum},
		{[]api.Errno{api.OK, api.OK}, api.ErrQuorum},
	} {
		w := New(props(2, 0), choices("a", "b", "c"))
		for m, e := range x.refusals {
			w.Refused(string(rune('a'+m)), e)
		}
		if w.State() != api.Unmet || w.Err() != x.want {
			t.Error(k, w.State(), w.Err())
		}
	}
	// A node that is not in the list does not count.
	w := New(props(2, 0), choices("a", "b", "c"))
	w.Refused("x", api.ErrQuota)
	w.Refused("a", api.ErrDown)
	w.Refused("a", api.ErrQuota)
	w.Refused("b", api.ErrDown)
	if !is(w, api.Unmet, api.ErrQuorum, true) {
		t.Error(w.State(), w.Err())
	}
}

func TestAtOnce(t *testing.T) {
	if w := New(props(1, 0), nil); !is(w, api.Unmet, api.ErrQuorum, false) {
		t.Error(w.State(), w.Err())
	}
	if w := New(props(0, 0), choices("a")); !is(w, api.Met, api.OK, true) {
		t.Error(w.State(), w.Err())
	}
	w := New(props(3, 0), choices("a", "b"))
	w.Refused("a", api.ErrQuota)
	if !is(w, api.Unmet, api.ErrQuorum, true) {
		t.Error("it was unmet ahead", w.Err())
	}
}

func TestNilAndZero(t *testing.T) {
	for _, w := range []*Writer{nil, {}} {
		w.Done("a")
		w.Done("")
		w.Refused("a", api.ErrQuota)
		if !is(w, api.Waits, api.OK, false) {
			t.Error("a write that is none")
		}
	}
}

func TestListsAreNotKept(t *testing.T) {
	l := choices("a", "b")
	w := New(props(1, 0), l)
	l[0].Node, l[1].Node = "x", "y"
	w.Done("x")
	if w.State() != api.Waits {
		t.Error("the list is kept")
	}
	w.Done("a")
	if w.State() != api.Met {
		t.Error("the list is kept")
	}
}

func TestSomeWrites(t *testing.T) {
	r := rand.New(rand.NewPCG(41, 42))
	nodes := []string{"a", "b", "c", "d"}
	for range 2000 {
		p := props(r.IntN(5), r.IntN(3))
		l := choices(nodes[:r.IntN(5)]...)
		w := New(p, l)
		var yes, no []string
		state, quota := quorum.Write(p, l, nil, nil), false
		for _, k := range r.Perm(4) {
			node, e := nodes[k], []api.Errno{api.OK, api.ErrQuota, api.ErrDown}[r.IntN(3)]
			if e == api.OK {
				w.Done(node)
				yes = append(yes, node)
			} else {
				w.Refused(node, e)
				no = append(no, node)
				quota = quota || e == api.ErrQuota && state == api.Waits && k < len(l)
			}
			if state == api.Waits {
				state = quorum.Write(p, l, yes, no)
			}
			want := map[bool]api.Errno{true: api.ErrQuota, false: api.ErrQuorum}[quota]
			if state != api.Unmet {
				want = api.OK
			}
			if w.State() != state || w.Err() != want {
				t.Fatal(p, l, yes, no, w.State(), w.Err())
			}
		}
		if w.Open() {
			t.Fatal("open")
		}
	}
}
