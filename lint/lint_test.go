package lint

import (
	"fmt"
	"pantler/admin"
	"pantler/api"
	"pantler/registry"
	"slices"
	"strings"
	"testing"
)

func entry(key, value string) api.Entry {
	return api.Entry{Key: key, Reg: api.Reg{N: 1, By: "n1", Value: value}}
}

func TestKnown(t *testing.T) {
	for _, key := range []string{"node/n1", "ring/0", "ring/15", "prop/t/b/n", "prop/t/b/r", "prop/t/b/w", "prop/t/b/pr", "prop/t/b/pw", "prop/t/b/several", "prop/t/b/missing", "prop/t/b/basic", "acl/t/b/u", "acl/t/b/all", "tenant/t/secret", "tenant/t/bytes", "tenant/t/rate", "tenant/t/burst", "tenant/t/queue"} {
		if !Known(key) {
			t.Error("not known", key)
		}
	}
	for _, key := range []string{"", "x", "node", "node/", "node/N", "node/n1/x", "ring", "ring/", "ring/16", "ring/-1", "ring/01", "ring/x", "ring/1/2", "prop", "prop/t/b", "prop/t/b/x", "prop/t/b/", "prop/T/b/n", "prop/t/B/n", "prop/t/b/n/x", "prop//b/n", "acl/t/b", "acl/t/b/U", "acl/t//u", "acl/t/b/u/x", "tenant/t", "tenant/t/x", "tenant/T/rate", "tenant/t/secret/x", "tenant//secret", "/node/n1", "nodes/n1", "Node/n1", "prop/t/b/N"} {
		if Known(key) {
			t.Error("known", key)
		}
	}
}

func TestBuckets(t *testing.T) {
	l := []api.Entry{entry("prop/u/b/n", ""), entry("prop/t/c/n", "2"), entry("prop/t/b/w", "9"), entry("prop/t/c/r", ""), entry("prop/t/d/x", ""), entry("prop/T/b/n", ""), entry("acl/t/e/u", "r"), entry("prop/t/b", "")}
	if got := Buckets(l); !slices.Equal(got, []string{"t/b", "t/c", "u/b"}) {
		t.Error(got)
	}
	if len(Buckets(nil)) != 0 {
		t.Error("buckets of nothing")
	}
}

// cluster are the entries of so many members, the last two in one rack, of which nothing is to be said, and some more.
func cluster(t *testing.T, many int, more ...api.Entry) []api.Entry {
	t.Helper()
	var members []api.Member
	for k := range many {
		members = append(members, api.Member{Name: fmt.Sprint("n", k), Rack: fmt.Sprint("r", min(k, many-2)), Zone: "z", Up: true})
	}
	l, e := admin.First(members, nil)
	for _, x := range more {
		if e == api.OK {
			l, e = registry.Put(l, api.Entry{Key: x.Key, Reg: api.Reg{N: 2, Value: x.Reg.Value}})
		}
	}
	if e != api.OK {
		t.Fatal(e)
	}
	return l
}

// said are warnings, each as its kind and its key.
func said(l []api.Warning) string {
	var all []string
	for _, w := range l {
		all = append(all, fmt.Sprint(w.Kind, " ", w.Key))
	}
	return strings.Join(all, ", ")
}

func TestCheck(t *testing.T) {
	open := entry("acl/t/b/joe", "r")
	for k, x := range []struct {
		l    []api.Entry
		want string
	}{
		{nil, ""},
		{cluster(t, 4), ""},
		{[]api.Entry{entry("x", ""), entry("node/N", ""), entry("x", "")}, "8 x, 8 node/N, 8 x"},
		{cluster(t, 4, entry("node/n2", "gone")), "1 ring/2, 1 ring/6, 1 ring/10, 1 ring/14"},
		{cluster(t, 4, entry("ring/3", "n0")), "2 ring"},
		{cluster(t, 4, entry("ring/3", "")), ""},
		{cluster(t, 4, entry("ring/3", "N")), ""},
		{cluster(t, 4, entry("ring/3", "nobody"), entry("ring/7", "n0")), "1 ring/3, 2 ring"},
		{cluster(t, 5), ""},
		{[]api.Entry{entry("ring/0", "n1")}, "1 ring/0"},
		{cluster(t, 4, open, entry("prop/t/b/n", "3")), ""},
		{cluster(t, 4, open, entry("prop/t/b/n", "4"), entry("prop/t/b/r", "3")), "4 prop/t/b"},
		{cluster(t, 4, open, entry("prop/t/b/n", "5"), entry("prop/t/b/r", "4")), "3 prop/t/b"},
		{[]api.Entry{open, entry("prop/t/b/n", "1")}, "3 prop/t/b"},
		{cluster(t, 4, open, entry("prop/t/b/r", "1")), "5 prop/t/b"},
		{cluster(t, 4, open, entry("prop/t/b/r", "1"), entry("prop/t/b/pr", "2"), entry("prop/t/b/pw", "2")), ""},
		{cluster(t, 4, open, entry("prop/t/b/r", "1"), entry("prop/t/b/pr", "1"), entry("prop/t/b/pw", "2")), "5 prop/t/b"},
		{cluster(t, 4, open, entry("prop/t/b/r", "1"), entry("prop/t/b/w", "3")), ""},
		{cluster(t, 4, entry("prop/t/b/n", "3")), "6 prop/t/b"},
		{cluster(t, 4, entry("prop/t/b/n", "3"), entry("acl/t/b/joe", "")), "6 prop/t/b"},
		{cluster(t, 4, entry("prop/t/b/n", "3"), entry("acl/t/b/joe", "x")), "6 prop/t/b"},
		{cluster(t, 4, entry("prop/t/b/n", "3"), entry("acl/t/c/joe", "r"), entry("acl/u/b/joe", "r")), "6 prop/t/b"},
		{cluster(t, 4, entry("prop/t/b/n", "3"), entry("acl/t/b/joe", ""), entry("acl/t/b/all", "wl")), ""},
		{cluster(t, 4, entry("prop/t/b/n", "3"), entry("acl/t/b/Joe", "r")), "8 acl/t/b/Joe, 6 prop/t/b"},
		{cluster(t, 3, entry("prop/u/b/n", "9"), entry("prop/t/c/r", "1"), entry("prop/t/b/n", "3")), "4 prop/t/b, 6 prop/t/b, 4 prop/t/c, 5 prop/t/c, 6 prop/t/c, 3 prop/u/b, 5 prop/u/b, 6 prop/u/b"},
		{[]api.Entry{entry("tenant/t/secret", "x")}, ""},
		{[]api.Entry{entry("tenant/t/bytes", "0"), entry("tenant/t/secret", "x")}, "7 tenant/t"},
		{[]api.Entry{entry("tenant/t/queue", "0"), entry("tenant/t/secret", "x")}, "7 tenant/t"},
		{[]api.Entry{entry("tenant/t/rate", "0"), entry("tenant/t/secret", "x")}, ""},
		{[]api.Entry{entry("tenant/t/burst", "0"), entry("tenant/t/secret", "x")}, ""},
		{[]api.Entry{entry("tenant/t/burst", "0"), entry("tenant/t/rate", "0"), entry("tenant/t/secret", "x")}, "7 tenant/t"},
		{[]api.Entry{entry("tenant/t/bytes", "0")}, ""},
		{[]api.Entry{entry("y", ""), entry("tenant/u/queue", "0"), entry("tenant/u/secret", "x"), entry("tenant/t/bytes", "0"), entry("tenant/t/secret", "x"), entry("prop/a/b/n", "1"), entry("ring/2", "n")}, "8 y, 1 ring/2, 3 prop/a/b, 6 prop/a/b, 7 tenant/t, 7 tenant/u"},
	} {
		if got := said(Check(x.l)); got != x.want {
			t.Errorf("%d: %s", k, got)
		}
	}
	// An entry's own register counts, also behind another one of the same key.
	l := append(cluster(t, 4, entry("prop/t/b/n", "3"), entry("acl/t/b/joe", "")), entry("acl/t/b/joe", "r"))
	if got := Check(l); len(got) != 0 {
		t.Error(got)
	}
}

func TestWhatAdministratorsDo(t *testing.T) {
	l := cluster(t, 5)
	for _, a := range []api.Admin{
		{Kind: api.AdminSecret, Tenant: "t", Text: "x"},
		{Kind: api.AdminLimit, Tenant: "t", Field: "rate", N: 3},
		{Kind: api.AdminProp, Tenant: "t", Bucket: "b", Field: "basic", N: 1},
		{Kind: api.AdminAccess, Tenant: "t", Bucket: "b", Field: "all", N: 7},
		{Kind: api.AdminMember, Member: api.Member{Name: "n9", Rack: "r", Zone: "z"}},
		{Kind: api.AdminGone, Member: api.Member{Name: "n1"}},
		{Kind: api.AdminClaim},
	} {
		told, e := admin.Entries(l, "n0", a)
		if e != api.OK || len(told) == 0 {
			t.Fatal(a, e)
		}
		for _, x := range told {
			if !Known(x.Key) {
				t.Error("not spoken of", x)
			}
			l, _ = registry.Put(l, x)
		}
	}
	if got := Check(l); len(got) != 0 {
		t.Error("behind a claim", got)
	}
}
