package plan

import (
	"fmt"
	"math/rand/v2"
	"pantler/admin"
	"pantler/api"
	"pantler/node"
	"pantler/prefer"
	"pantler/registry"
	"slices"
	"testing"
)

// entries are those of a cluster of so many members, with a number of copies.
func entries(t *testing.T, many, copies int) []api.Entry {
	t.Helper()
	var members []api.Member
	for k := range many {
		members = append(members, api.Member{Name: fmt.Sprint("n", k), Rack: fmt.Sprint("r", k%2), Zone: "z", Up: k != 3})
	}
	l, e := admin.First(members, []api.Entry{{Key: "prop/t/b/n", Reg: api.Reg{N: 1, Value: fmt.Sprint(copies)}}})
	if e != api.OK {
		t.Fatal(e)
	}
	return l
}

func TestKeepers(t *testing.T) {
	l := entries(t, 5, 2)
	n, _ := node.New("n0", l)
	for k := range 30 {
		for _, place := range []string{fmt.Sprint("b/", k), fmt.Sprint("c/", k)} {
			if got := Keepers(l, "t", place); !slices.Equal(got, prefer.Nodes(n.List("t", place))) || len(got) != 2+int(place[0]-'b') {
				t.Error(place, got)
			}
		}
	}
	for _, place := range []string{"", "b", "b/", "B/k", "/k"} {
		if got := Keepers(l, "t", place); len(got) != 0 {
			t.Error(place, got)
		}
	}
	if got := Keepers(nil, "t", "b/k"); len(got) != 0 {
		t.Error(got)
	}
}

func copyOf(from, to string) api.Order { return api.Order{Place: "b/k", From: from, To: to} }

func drop(at string) api.Order { return api.Order{Place: "b/k", To: at} }

func TestOrders(t *testing.T) {
	for k, x := range []struct {
		was, now []string
		want     []api.Order
	}{
		{[]string{"a", "b"}, []string{"b", "c"}, []api.Order{copyOf("b", "c"), drop("a")}},
		{[]string{"a", "b"}, []string{"a", "b"}, nil},
		{[]string{"a", "b"}, []string{"b", "a"}, nil},
		{[]string{"a", "b"}, []string{"c", "d"}, []api.Order{copyOf("a", "c"), copyOf("a", "d"), drop("a"), drop("b")}},
		{[]string{"a", "b", "c"}, []string{"c", "d", "b"}, []api.Order{copyOf("b", "d"), drop("a")}},
		{[]string{"a"}, []string{"b", "a", "c"}, []api.Order{copyOf("a", "b"), copyOf("a", "c")}},
		{[]string{"a", "b", "c"}, []string{"b"}, []api.Order{drop("a"), drop("c")}},
		{nil, []string{"a"}, nil},
		{[]string{"a"}, nil, nil},
		{nil, nil, nil},
	} {
		if got := Orders("b/k", x.was, x.now); !slices.Equal(got, x.want) {
			t.Error(k, got)
		}
	}
}

func TestDo(t *testing.T) {
	for k, x := range []struct {
		l    []api.Order
		want []string
	}{
		{nil, []string{"a", "b"}},
		{[]api.Order{copyOf("a", "c")}, []string{"a", "b", "c"}},
		{[]api.Order{copyOf("a", "c"), copyOf("c", "d"), drop("a")}, []string{"b", "c", "d"}},
		{[]api.Order{drop("a"), copyOf("b", "a"), drop("b")}, []string{"a"}},
		{[]api.Order{{Place: "b/l", To: "x"}, {Place: "b/l", From: "x", To: "a"}}, []string{"a", "b"}},
	} {
		if got, e := Do([]string{"a", "b"}, "b/k", x.l); e != api.OK || !slices.Equal(got, x.want) {
			t.Error(k, got, e)
		}
	}
	for k, l := range [][]api.Order{
		{copyOf("c", "d")},
		{copyOf("a", "b")},
		{copyOf("a", "a")},
		{drop("c")},
		{drop("a"), drop("b")},
		{drop("a"), drop("a")},
		{copyOf("a", "c"), copyOf("b", "c")},
		{drop("a"), copyOf("a", "c")},
	} {
		if got, e := Do([]string{"a", "b"}, "b/k", l); e != api.ErrArg || len(got) != 0 {
			t.Error(k, got, e)
		}
	}
	if got, e := Do(nil, "b/k", nil); e != api.OK || len(got) != 0 {
		t.Error(got, e)
	}
	if _, e := Do([]string{"a", "a"}, "b/k", []api.Order{drop("a")}); e != api.ErrArg {
		t.Error("the only one drops it", e)
	}
	room := []string{"a", "b", "c"}
	if got, _ := Do(room[:2], "b/k", []api.Order{copyOf("a", "x"), drop("a")}); !slices.Equal(got, []string{"b", "x"}) || !slices.Equal(room, []string{"a", "b", "c"}) {
		t.Error("changed", room)
	}
}

func TestAll(t *testing.T) {
	was := entries(t, 6, 3)
	now := entries(t, 6, 2)
	gone, _ := admin.Entries(now, "n0", api.Admin{Kind: api.AdminGone, Member: api.Member{Name: "n1"}})
	now, _ = registry.Put(now, gone[0])
	places := []string{"b/1", "c/2", "none", "b/1", "b/3"}
	var want []api.Order
	for _, place := range places {
		want = append(want, Orders(place, Keepers(was, "t", place), Keepers(now, "t", place))...)
	}
	if got := All(was, now, "t", places); !slices.Equal(got, want) || len(got) == 0 {
		t.Error(got)
	}
	if len(All(was, was, "t", places))+len(All(was, now, "t", nil))+len(All(nil, now, "t", places)) != 0 {
		t.Error("nothing is to be done")
	}
}

func TestWhatIsOrderedLeadsThere(t *testing.T) {
	r := rand.New(rand.NewPCG(59, 60))
	pick := func() []string {
		var l []string
		for _, k := range r.Perm(6)[:1+r.IntN(5)] {
			l = append(l, string(rune('a'+k)))
		}
		return l
	}
	for range 1000 {
		was, now := pick(), pick()
		orders := Orders("b/k", was, now)
		all := slices.Concat(was, now)
		slices.Sort(all)
		most := len(slices.Compact(all))
		for k := range len(orders) + 1 {
			got, e := Do(was, "b/k", orders[:k])
			if e != api.OK || len(got) == 0 || len(got) > most {
				t.Fatal(was, now, orders[:k], got, e)
			}
			if k == len(orders) {
				want := slices.Sorted(slices.Values(now))
				slices.Sort(got)
				if !slices.Equal(got, want) {
					t.Fatal(was, now, got)
				}
			}
		}
	}
}
