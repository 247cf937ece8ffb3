package tenant

import (
	"math"
	"pantler/api"
	"pantler/name"
	"pantler/registry"
	"slices"
	"strings"
	"testing"
)

func entry(key, value string) api.Entry {
	return api.Entry{Key: key, Reg: api.Reg{N: 1, By: "n1", Value: value}}
}

// usual is a tenant of which nothing was said but its secret.
func usual(name, secret string) api.Tenant {
	return api.Tenant{Name: name, Secret: secret, Bytes: 1 << 20, Rate: 8, Burst: 16, Queue: 16}
}

func TestKey(t *testing.T) {
	if got := Key("t", "secret"); got != "tenant/t/secret" {
		t.Error(got)
	}
	if got := Key("", "/"); got != "tenant///" {
		t.Error(got)
	}
}

func TestOf(t *testing.T) {
	great := strings.Repeat("s", api.MaxSecret)
	for k, x := range []struct {
		l    []api.Entry
		want api.Tenant
	}{
		{[]api.Entry{entry("tenant/t/secret", "x")}, usual("t", "x")},
		{[]api.Entry{entry("tenant/t/secret", great)}, usual("t", great)},
		{[]api.Entry{entry("tenant/t/bytes", "0"), entry("tenant/t/rate", "0"), entry("tenant/t/burst", "0"), entry("tenant/t/queue", "0"), entry("tenant/t/secret", "\x00")}, api.Tenant{Name: "t", Secret: "\x00"}},
		{[]api.Entry{entry("tenant/t/secret", "x"), entry("tenant/t/bytes", name.Dec(1<<40)), entry("tenant/t/rate", name.Dec(1<<20)), entry("tenant/t/burst", name.Dec(1<<20)), entry("tenant/t/queue", "64")}, api.Tenant{Name: "t", Secret: "x", Bytes: 1 << 40, Rate: 1 << 20, Burst: 1 << 20, Queue: 64}},
		{[]api.Entry{entry("tenant/t/secret", "x"), entry("tenant/t/bytes", name.Dec(1<<40+1)), entry("tenant/t/rate", name.Dec(1<<20+1)), entry("tenant/t/burst", name.Dec(1<<20+1)), entry("tenant/t/queue", "65")}, usual("t", "x")},
		{[]api.Entry{entry("tenant/t/secret", "x"), entry("tenant/t/bytes", "-1"), entry("tenant/t/rate", "01"), entry("tenant/t/burst", ""), entry("tenant/t/queue", "x")}, usual("t", "x")},
		{[]api.Entry{entry("tenant/t/secret", "x"), entry("tenant/t/rate", "3"), entry("tenant/t/rate", "4"), entry("tenant/t/secret", "y"), entry("tenant/u/burst", "5")}, api.Tenant{Name: "t", Secret: "x", Bytes: 1 << 20, Rate: 3, Burst: 16, Queue: 16}},
	} {
		if got, ok := Of(x.l, "t"); got != x.want || !ok {
			t.Error(k, got, ok)
		}
	}
	for k, l := range [][]api.Entry{nil, {entry("tenant/t/secret", "")}, {entry("tenant/t/secret", great+"s")}, {entry("tenant/u/secret", "x")}, {entry("tenant/t", "x"), entry("tenant/t/bytes", "1")}, {entry("tenant/t/secret", ""), entry("tenant/t/secret", "x")}} {
		if got, ok := Of(l, "t"); got != (api.Tenant{}) || ok {
			t.Error(k, got, ok)
		}
	}
	for _, tenant := range []string{"", "T", "a/b", "abcdefghijklmnopq"} {
		if got, ok := Of([]api.Entry{entry("tenant/"+tenant+"/secret", "x")}, tenant); got != (api.Tenant{}) || ok {
			t.Error(tenant, got, ok)
		}
	}
}

func TestAll(t *testing.T) {
	l := []api.Entry{entry("tenant/u/secret", "x"), entry("tenant/t/secret", "y"), entry("tenant/t/rate", "1"), entry("tenant/u/secret", "z"), entry("tenant/v/rate", "1"), entry("tenant/w/secret", ""), entry("tenant/w/secret", "x"), entry("tenant/X/secret", "x"), entry("tenant/a/b/secret", "x"), entry("tenant/a/secret/b", "x"), entry("tenant/secret", "x"), entry("tenants/y/secret", "x"), entry("tenant//secret", "x"), entry("tenant/a-1/secret", "x")}
	if got := All(l); !slices.Equal(got, []string{"a-1", "t", "u"}) {
		t.Error(got)
	}
	if len(All(nil)) != 0 {
		t.Error("tenants of nothing")
	}
	for _, tenant := range All(l) {
		if _, ok := Of(l, tenant); !ok {
			t.Error(tenant)
		}
	}
}

func TestSecret(t *testing.T) {
	great := strings.Repeat("s", api.MaxSecret)
	was := []api.Entry{entry("tenant/t/secret", "x")}
	for _, secret := range []string{"y", great, "\xff"} {
		x, e := Secret(was, "n2", "t", secret)
		if e != api.OK || x != (api.Entry{Key: "tenant/t/secret", Reg: api.Reg{N: 2, By: "n2", Value: secret}}) {
			t.Error(x, e)
		}
		l, _ := registry.Put(was, x)
		if got, ok := Of(l, "t"); got != usual("t", secret) || !ok {
			t.Error(got, ok)
		}
	}
	last := []api.Entry{{Key: "tenant/t/secret", Reg: api.Reg{N: api.MaxVersion}}}
	for k, x := range []struct {
		l                  []api.Entry
		by, tenant, secret string
		e                  api.Errno
	}{{nil, "n1", "", "x", api.ErrArg}, {nil, "n1", "T", "x", api.ErrArg}, {nil, "n1", "t", "", api.ErrArg}, {nil, "n1", "t", great + "s", api.ErrArg}, {nil, "", "t", "x", api.ErrArg}, {slices.Concat(was, was), "n1", "t", "x", api.ErrArg}, {last, "n1", "t", "x", api.ErrLong}, {last, "n1", "t", "", api.ErrArg}} {
		if got, e := Secret(x.l, x.by, x.tenant, x.secret); e != x.e || got != (api.Entry{}) {
			t.Error(k, got, e)
		}
	}
}

func TestLimit(t *testing.T) {
	was := []api.Entry{entry("tenant/t/secret", "x"), entry("tenant/u/secret", "y")}
	for field, most := range map[string]int{"bytes": 1 << 40, "rate": 1 << 20, "burst": 1 << 20, "queue": 64} {
		for _, n := range []int{0, 1, most} {
			x, e := Limit(was, "n2", "t", field, n)
			if e != api.OK || x != (api.Entry{Key: "tenant/t/" + field, Reg: api.Reg{N: 1, By: "n2", Value: name.Dec(n)}}) {
				t.Error(field, n, x, e)
			}
			l, _ := registry.Put(was, x)
			got, _ := Of(l, "t")
			want := usual("t", "x")
			*map[string]*int{"bytes": &want.Bytes, "rate": &want.Rate, "burst": &want.Burst, "queue": &want.Queue}[field] = n
			other, _ := Of(l, "u")
			if got != want || other != usual("u", "y") {
				t.Error(field, n, got, other)
			}
		}
		for _, n := range []int{-1, most + 1, math.MinInt, math.MaxInt} {
			if x, e := Limit(was, "n2", "t", field, n); e != api.ErrArg || x != (api.Entry{}) {
				t.Error(field, n, x, e)
			}
		}
	}
	last := []api.Entry{{Key: "tenant/t/rate", Reg: api.Reg{N: api.MaxVersion}}}
	for k, x := range []struct {
		l                 []api.Entry
		by, tenant, field string
		e                 api.Errno
	}{{nil, "n1", "", "rate", api.ErrArg}, {nil, "n1", "T", "rate", api.ErrArg}, {nil, "n1", "t", "secret", api.ErrArg}, {nil, "n1", "t", "", api.ErrArg}, {nil, "n1", "t", "Rate", api.ErrArg}, {nil, "", "t", "rate", api.ErrArg}, {[]api.Entry{entry("", "")}, "n1", "t", "rate", api.ErrArg}, {last, "n1", "t", "rate", api.ErrLong}, {last, "n1", "T", "rate", api.ErrArg}} {
		if got, e := Limit(x.l, x.by, x.tenant, x.field, 1); e != x.e || got != (api.Entry{}) {
			t.Error(k, got, e)
		}
	}
}
