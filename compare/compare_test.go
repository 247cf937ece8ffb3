package compare

import (
	"fmt"
	"math/rand/v2"
	"pantler/api"
	"pantler/object"
	"pantler/tree"
	"slices"
	"testing"
)

// obj is an object of one value.
func obj(node string, n int) api.Obj {
	o, _ := object.New(nil, api.Sib{Dot: api.Dot{Node: node, N: n}, Value: node})
	return o
}

// same tells whether items are the same.
func same(a, b []api.Item) bool {
	return slices.EqualFunc(a, b, func(x, y api.Item) bool { return x.Place == y.Place && object.Same(x.Obj, y.Obj) })
}

func TestSendAndWant(t *testing.T) {
	a := []api.Leaf{{Place: "z", Digest: "1"}, {Place: "a", Digest: "2"}, {Place: "b", Digest: "3"}, {Place: "z", Digest: "1"}}
	b := []api.Leaf{{Place: "b", Digest: "3"}, {Place: "a", Digest: "9"}, {Place: "c", Digest: "4"}, {Place: "2", Digest: "a"}}
	for k, x := range []struct {
		mine, theirs []api.Leaf
		send, want   []string
	}{
		{nil, nil, nil, nil},
		{a, a, nil, nil},
		{a, nil, []string{"z", "a", "b", "z"}, nil},
		{a, b, []string{"z", "a", "z"}, []string{"a", "c", "2"}},
	} {
		if got := Send(x.mine, x.theirs); !slices.Equal(got, x.send) {
			t.Error(k, got)
		}
		if got := Want(x.mine, x.theirs); !slices.Equal(got, x.want) {
			t.Error(k, got)
		}
		if got := Want(x.theirs, x.mine); !slices.Equal(got, x.send) {
			t.Error(k, got)
		}
	}
}

func TestItems(t *testing.T) {
	l := []api.Item{{Place: "b/b", Obj: obj("n", 1)}, {Place: "a/a"}, {Place: "b/b", Obj: obj("m", 2)}, {Place: ""}}
	for k, x := range []struct {
		places []string
		want   []api.Item
	}{{nil, nil}, {[]string{"c"}, nil}, {[]string{"b/b", "x", "b/b"}, []api.Item{l[0], l[2]}}, {[]string{"", "a/a"}, []api.Item{l[1], l[3]}}} {
		if got := Items(l, x.places); !same(got, x.want) {
			t.Error(k, got)
		}
	}
	got := Items(l, []string{"b/b"})
	got[0].Obj.Ctx[0].Base = 9
	got[0].Obj.Sibs[0].Value = "changed"
	got[1].Place = "changed"
	if l[0].Obj.Ctx[0].Base != 1 || l[0].Obj.Sibs[0].Value != "n" || l[2].Place != "b/b" {
		t.Error("changed", l)
	}
}

func TestMerge(t *testing.T) {
	a, b := obj("a", 1), obj("b", 1)
	ab, _ := object.Merge(a, b)
	l := []api.Item{{Place: "b/a", Obj: a}, {Place: "b/b", Obj: a}, {Place: "b/d", Obj: ab}}
	others := []api.Item{{Place: "a/a", Obj: b}, {Place: "b/b", Obj: b}, {Place: "b/c", Obj: b}, {Place: "b/d", Obj: a}, {Place: "c/c", Obj: api.Obj{}}}
	all, changed, e := Merge(l, others)
	want := []api.Item{others[0], l[0], {Place: "b/b", Obj: ab}, others[2], l[2], others[4]}
	if e != api.OK || !same(all, want) || !same(changed, []api.Item{want[0], want[2], want[3], want[5]}) {
		t.Error(all, changed, e)
	}
	for k, x := range [][2][]api.Item{{l, nil}, {l, l}, {nil, nil}} {
		if all, changed, e := Merge(x[0], x[1]); e != api.OK || !same(all, x[0]) || len(changed) > 0 {
			t.Error(k, all, changed, e)
		}
	}
	if all, changed, e := Merge(nil, l); e != api.OK || !same(all, l) || !same(changed, l) {
		t.Error(all, changed, e)
	}
}

func TestMergeRefuses(t *testing.T) {
	var more []int
	for k := range api.MaxDots {
		more = append(more, 2*k+2)
	}
	good := []api.Item{{Place: "b/a", Obj: obj("a", 1)}, {Place: "b/b", Obj: api.Obj{Ctx: []api.Seen{{Node: "a", More: more}}}}}
	long := []api.Item{{Place: "b/b", Obj: obj("b", 2)}}
	for k, x := range []struct {
		l, others []api.Item
		e         api.Errno
	}{
		{[]api.Item{{Place: "b"}}, good, api.ErrArg},
		{good, []api.Item{{Place: "b/b"}, {Place: "b/a"}}, api.ErrArg},
		{good, []api.Item{{Place: "b/a"}, {Place: "b/a"}}, api.ErrArg},
		{good, []api.Item{{Place: "b/c", Obj: api.Obj{Ctx: []api.Seen{{Node: "A", Base: 1}}}}}, api.ErrArg},
		{good, long, api.ErrLong},
		{long, good, api.ErrLong},
		{good, append(slices.Clone(long), api.Item{Place: "x"}), api.ErrArg},
	} {
		if all, changed, e := Merge(x.l, x.others); e != x.e || len(all)+len(changed) > 0 {
			t.Error(k, e)
		}
	}
}

func TestMergedListsShareNoMemory(t *testing.T) {
	a := []api.Item{{Place: "b/a", Obj: obj("a", 1)}, {Place: "b/c", Obj: obj("a", 1)}}
	b := []api.Item{{Place: "b/b", Obj: obj("b", 1)}, {Place: "b/c", Obj: obj("b", 1)}}
	all, changed, _ := Merge(a, b)
	for _, l := range [][]api.Item{changed, a, b} {
		for k := range l {
			l[k].Obj.Ctx[0].Base = 99
			l[k].Obj.Sibs[0].Value = "changed"
			l[k].Place = "changed"
		}
	}
	for _, x := range all {
		if x.Place == "changed" || x.Obj.Ctx[0].Base == 99 || x.Obj.Sibs[0].Value == "changed" {
			t.Error(x)
		}
	}
}

// some are a few items, and fewer of them.
func some(r *rand.Rand) []api.Item {
	var l []api.Item
	for k := range 6 {
		if r.IntN(3) > 0 {
			o := obj(string(rune('a'+r.IntN(3))), 1+r.IntN(2))
			l = append(l, api.Item{Place: fmt.Sprint("b/", k), Obj: o})
		}
	}
	return l
}

func TestWhatIsExchangedIsTheSameThen(t *testing.T) {
	r := rand.New(rand.NewPCG(27, 28))
	for range 500 {
		a, b := some(r), some(r)
		la, lb := tree.Leaves(a), tree.Leaves(b)
		fromA, fromB := Items(a, Send(la, lb)), Items(b, Want(la, lb))
		allA, changedA, e1 := Merge(a, fromB)
		allB, changedB, e2 := Merge(b, fromA)
		if e1 != api.OK || e2 != api.OK || !same(allA, allB) {
			t.Fatal(a, b, allA, allB)
		}
		if la, lb := tree.Leaves(allA), tree.Leaves(allB); len(Send(la, lb))+len(Want(la, lb)) > 0 {
			t.Fatal("something is sent still", a, b)
		}
		if len(changedA) != len(Send(tree.Leaves(allA), la)) || len(changedB) != len(Send(tree.Leaves(allB), lb)) {
			t.Fatal("changed", a, b, changedA, changedB)
		}
	}
}
