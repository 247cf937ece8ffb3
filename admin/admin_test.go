package admin

import (
	"fmt"
	"pantler/access"
	"pantler/api"
	"pantler/claim"
	"pantler/move"
	"pantler/name"
	"pantler/props"
	"pantler/register"
	"pantler/registry"
	"pantler/ring"
	"pantler/tenant"
	"pantler/topo"
	"slices"
	"strings"
	"testing"
)

func member(name, rack, zone string, up bool) api.Member {
	return api.Member{Name: name, Rack: rack, Zone: zone, Up: up}
}

func entry(key string, n int, by, value string) api.Entry {
	return api.Entry{Key: key, Reg: api.Reg{N: n, By: by, Value: value}}
}

// cluster are the entries of three members.
func cluster(t *testing.T) []api.Entry {
	t.Helper()
	l, e := First([]api.Member{member("n1", "r1", "z1", true), member("n2", "r2", "z1", true), member("n3", "r1", "z2", false)}, []api.Entry{entry("tenant/t/secret", 1, "", "x")})
	if e != api.OK {
		t.Fatal(e)
	}
	return l
}

func TestFirst(t *testing.T) {
	members := []api.Member{member("n2", "r2", "z1", true), member("n1", "r1", "z1", false)}
	more := []api.Entry{entry("a", 5, "x", "y"), entry("node/n1", 2, "", "gone"), entry("ring/3", 1, "", "a")}
	l, e := First(members, more)
	if e != api.OK || registry.Check(l) != api.OK || len(l) != 2+16+1 {
		t.Fatal(l, e)
	}
	want := map[string]api.Reg{"a": more[0].Reg, "node/n1": more[1].Reg, "node/n2": {N: 1, Value: "r2/z1/up"}, "ring/0": {N: 1, Value: "n2"}, "ring/1": {N: 1, Value: "n1"}, "ring/3": {N: 1, Value: "n1"}, "ring/15": {N: 1, Value: "n1"}}
	for key, reg := range want {
		if got := registry.Get(l, key); got != reg {
			t.Error(key, got)
		}
	}
	if l, e = First(members[1:], nil); e != api.OK || registry.Get(l, "node/n1") != (api.Reg{N: 1, Value: "r1/z1/down"}) || !slices.Equal(ring.Owners(l, 16), slices.Repeat([]string{"n1"}, 16)) {
		t.Error(l, e)
	}
}

func TestFirstRefuses(t *testing.T) {
	var nine []api.Member
	var many []api.Entry
	for k := range 9 {
		nine = append(nine, member(fmt.Sprint("n", k), "r", "z", true))
	}
	for k := range 4096 {
		many = append(many, entry(fmt.Sprintf("a%05d", k), 1, "", ""))
	}
	if l, e := First(nine[:8], nil); e != api.OK || len(l) != 24 {
		t.Error(l, e)
	}
	for k, x := range []struct {
		members []api.Member
		more    []api.Entry
		e       api.Errno
	}{
		{nil, nil, api.ErrArg},
		{nine, nil, api.ErrArg},
		{[]api.Member{nine[0], nine[1], nine[0]}, nil, api.ErrArg},
		{[]api.Member{nine[0], member("n0", "r2", "z2", false)}, nil, api.ErrArg},
		{[]api.Member{member("", "r", "z", true)}, nil, api.ErrArg},
		{[]api.Member{member("N", "r", "z", true)}, nil, api.ErrArg},
		{[]api.Member{member("n", "", "z", true)}, nil, api.ErrArg},
		{[]api.Member{member("n", "r", "Z", true)}, nil, api.ErrArg},
		{nine[:1], []api.Entry{entry("", 1, "", "")}, api.ErrArg},
		{nine[:1], []api.Entry{entry("b", 1, "", ""), entry("a", 1, "", "")}, api.ErrArg},
		{nine[:1], many, api.ErrLong},
		{nil, many, api.ErrArg},
		{nine[:1], many[:4096-17], api.OK},
		{nine[:1], many[:4096-16], api.ErrLong},
	} {
		if l, e := First(x.members, x.more); e != x.e || e != api.OK && len(l) > 0 {
			t.Error(k, e)
		}
	}
}

func TestOneEntryIsSet(t *testing.T) {
	l := cluster(t)
	one := func(x api.Entry, e api.Errno) api.Entry {
		if e != api.OK {
			t.Fatal(e)
		}
		return x
	}
	for k, x := range []struct {
		a    api.Admin
		want api.Entry
	}{
		{api.Admin{Kind: api.AdminSecret, Tenant: "t", Text: "new"}, one(tenant.Secret(l, "n1", "t", "new"))},
		{api.Admin{Kind: api.AdminLimit, Tenant: "t", Field: "rate", N: 3}, one(tenant.Limit(l, "n1", "t", "rate", 3))},
		{api.Admin{Kind: api.AdminProp, Tenant: "t", Bucket: "b", Field: "n", N: 2}, one(props.Set(l, "n1", "t", "b", "n", 2))},
		{api.Admin{Kind: api.AdminAccess, Tenant: "t", Bucket: "b", Field: "joe", N: 5}, one(access.Set(l, "n1", "t", "b", "joe", 5))},
		{api.Admin{Kind: api.AdminMember, Member: member("n4", "r9", "z9", true)}, entry("node/n4", 1, "n1", "r9/z9/up")},
		{api.Admin{Kind: api.AdminMember, Member: member("n2", "r9", "z9", false)}, entry("node/n2", 2, "n1", "r9/z9/down")},
		{api.Admin{Kind: api.AdminGone, Member: member("n3", "", "", false)}, entry("node/n3", 2, "n1", "gone")},
	} {
		got, e := Entries(l, "n1", x.a)
		if e != api.OK || !slices.Equal(got, []api.Entry{x.want}) || !register.Newer(got[0].Reg, registry.Get(l, got[0].Key)) {
			t.Error(k, got, e)
		}
	}
}

func TestEntriesRefuse(t *testing.T) {
	l := cluster(t)
	gone, _ := registry.Put(l, entry("node/n3", 2, "n1", "gone"))
	last, _ := registry.Put(l, entry("node/n2", api.MaxVersion, "n1", "r/z/up"))
	fixed, _ := registry.Put(l, entry("ring/9", api.MaxVersion, "n1", "x"))
	for k, x := range []struct {
		l  []api.Entry
		by string
		a  api.Admin
		e  api.Errno
	}{
		{l, "n1", api.Admin{}, api.ErrArg},
		{l, "n1", api.Admin{Kind: 8}, api.ErrArg},
		{l, "n1", api.Admin{Kind: -1}, api.ErrArg},
		{l, "", api.Admin{Kind: api.AdminClaim}, api.ErrArg},
		{l, "N", api.Admin{Kind: api.AdminClaim}, api.ErrArg},
		{[]api.Entry{entry("", 1, "", "")}, "n1", api.Admin{Kind: api.AdminClaim}, api.ErrArg},
		{[]api.Entry{entry("b", 1, "", ""), entry("a", 1, "", "")}, "n1", api.Admin{Kind: api.AdminGone}, api.ErrArg},
		{l, "n1", api.Admin{Kind: api.AdminSecret, Tenant: "t"}, api.ErrArg},
		{l, "n1", api.Admin{Kind: api.AdminSecret, Tenant: "T", Text: "x"}, api.ErrArg},
		{l, "n1", api.Admin{Kind: api.AdminLimit, Tenant: "t", Field: "secret", N: 1}, api.ErrArg},
		{l, "n1", api.Admin{Kind: api.AdminLimit, Tenant: "t", Field: "queue", N: 65}, api.ErrArg},
		{l, "n1", api.Admin{Kind: api.AdminProp, Tenant: "t", Bucket: "b", Field: "n", N: 17}, api.ErrArg},
		{l, "n1", api.Admin{Kind: api.AdminProp, Tenant: "t", Bucket: "", Field: "n", N: 1}, api.ErrArg},
		{l, "n1", api.Admin{Kind: api.AdminAccess, Tenant: "t", Bucket: "b", Field: "joe", N: 8}, api.ErrArg},
		{l, "n1", api.Admin{Kind: api.AdminMember, Member: member("", "r", "z", true)}, api.ErrArg},
		{l, "n1", api.Admin{Kind: api.AdminMember, Member: member("n4", "R", "z", true)}, api.ErrArg},
		{l, "n1", api.Admin{Kind: api.AdminMember, Member: member("n4", "r", "", true)}, api.ErrArg},
		{last, "n1", api.Admin{Kind: api.AdminMember, Member: member("n2", "r", "z", true)}, api.ErrLong},
		{last, "n1", api.Admin{Kind: api.AdminGone, Member: member("n2", "", "", true)}, api.ErrLong},
		{l, "n1", api.Admin{Kind: api.AdminGone, Member: member("n4", "r", "z", true)}, api.ErrNone},
		{l, "n1", api.Admin{Kind: api.AdminGone, Member: member("", "r", "z", true)}, api.ErrNone},
		{gone, "n1", api.Admin{Kind: api.AdminGone, Member: member("n3", "r", "z", true)}, api.ErrNone},
		{nil, "n1", api.Admin{Kind: api.AdminClaim}, api.ErrNone},
		{fixed, "n1", api.Admin{Kind: api.AdminClaim}, api.ErrLong},
	} {
		if got, e := Entries(x.l, x.by, x.a); e != x.e || len(got) > 0 {
			t.Error(k, got, e)
		}
	}
}

func TestAClaimIsEven(t *testing.T) {
	l := cluster(t)
	if got, e := Entries(l, "n1", api.Admin{Kind: api.AdminClaim}); e != api.OK || len(got) != 0 {
		t.Error("all is shared out already", got, e)
	}
	x, _ := Entries(l, "n1", api.Admin{Kind: api.AdminGone, Member: member("n2", "", "", false)})
	l, _ = registry.Put(l, x[0])
	owners := ring.Owners(l, 16)
	want := claim.Even(owners, []string{"n1", "n3"})
	got, e := Entries(l, "n3", api.Admin{Kind: api.AdminClaim})
	if e != api.OK || len(got) != 5 {
		t.Fatal(got, e)
	}
	for k, m := range move.Plan(owners, want) {
		if got[k] != entry(ring.Key(m.Part), 2, "n3", m.To) {
			t.Error(k, got[k])
		}
		if l, e = registry.Put(l, got[k]); e != api.OK {
			t.Fatal(e)
		}
	}
	var parts []int
	for _, x := range got {
		part, _ := name.Num(strings.TrimPrefix(x.Key, "ring/"))
		parts = append(parts, part)
	}
	if !slices.IsSorted(parts) || !slices.Equal(ring.Owners(l, 16), want) {
		t.Error("not in the order of partitions", parts)
	}
	if loads := claim.Loads(ring.Owners(l, 16), []string{"n1", "n3"}); !slices.Equal(loads, []int{8, 8}) || len(topo.Members(l)) != 2 {
		t.Error(loads)
	}
	if again, e := Entries(l, "n1", api.Admin{Kind: api.AdminClaim}); e != api.OK || len(again) != 0 {
		t.Error(again, e)
	}
}
