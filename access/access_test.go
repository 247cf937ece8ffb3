package access

import (
	"math"
	"pantler/api"
	"pantler/registry"
	"testing"
)

func entry(key, value string) api.Entry {
	return api.Entry{Key: key, Reg: api.Reg{N: 1, By: "n1", Value: value}}
}

// texts are the letters of all rights.
func texts() []string { return []string{"", "r", "w", "rw", "l", "rl", "wl", "rwl"} }

func TestLettersTellRights(t *testing.T) {
	for rights, s := range texts() {
		if got := Text(rights); got != s {
			t.Error(rights, got)
		}
		if got, ok := Rights(s); got != rights || !ok {
			t.Error(s, got, ok)
		}
	}
	for _, rights := range []int{-1, 8, 15, math.MinInt, math.MaxInt} {
		if got := Text(rights); got != "" {
			t.Error(rights, got)
		}
	}
	for _, s := range []string{"R", "lr", "wr", "rr", "rwlx", "x", " ", "r ", "0", "lwr"} {
		if got, ok := Rights(s); got != 0 || ok {
			t.Error(s, got, ok)
		}
	}
	if api.MayRead != 1 || api.MayWrite != 2 || api.MayList != 4 {
		t.Error("rights are others")
	}
}

func TestKey(t *testing.T) {
	if got := Key("t", "b", "u"); got != "acl/t/b/u" {
		t.Error(got)
	}
	if got := Key("", "/", "U"); got != "acl////U" {
		t.Error(got)
	}
}

func TestOf(t *testing.T) {
	l := []api.Entry{entry("acl/t/b/u", "r"), entry("acl/t/b/all", "l"), entry("acl/t/b/v", "wr"), entry("acl/t/c/all", "rwx"), entry("acl/t/c/u", "w"), entry("acl/t/b/u", "rwl"), entry("acl/s/b/u", "rwl"), entry("acl/t/d/u", "rw"), entry("acl/t/b", "rwl"), entry("acl/t/e/all", "rw")}
	for k, x := range []struct {
		tenant, bucket, user string
		want                 int
	}{{"t", "b", "u", 5}, {"t", "b", "v", 4}, {"t", "b", "x", 4}, {"t", "b", "all", 4}, {"t", "c", "u", 2}, {"t", "c", "v", 0}, {"t", "d", "u", 3}, {"t", "d", "x", 0}, {"s", "b", "u", 7}, {"s", "b", "all", 0}, {"x", "b", "u", 0}, {"t", "", "b", 0}, {"t", "e", "", 3}, {"", "", "", 0}} {
		if got := Of(l, x.tenant, x.bucket, x.user); got != x.want {
			t.Error(k, got)
		}
	}
	if Of(nil, "t", "b", "u") != 0 {
		t.Error("rights of nothing")
	}
}

func TestSet(t *testing.T) {
	was := []api.Entry{entry("acl/t/b/u", "rwl"), entry("acl/t/b/v", "rwl")}
	for rights, s := range texts() {
		x, e := Set(was, "n2", "t", "b", "u", rights)
		if e != api.OK || x != (api.Entry{Key: "acl/t/b/u", Reg: api.Reg{N: 2, By: "n2", Value: s}}) {
			t.Error(rights, x, e)
		}
		l, e := registry.Put(was, x)
		if e != api.OK || Of(l, "t", "b", "u") != rights || Of(l, "t", "b", "v") != 7 || Of(l, "t", "c", "u") != 0 {
			t.Error(rights, l, e)
		}
		x, _ = Set(was, "n2", "t", "b", "all", rights)
		if l, _ = registry.Put(was, x); Of(l, "t", "b", "x") != rights {
			t.Error("everybody", rights, l)
		}
	}
	last := []api.Entry{{Key: "acl/t/b/u", Reg: api.Reg{N: api.MaxVersion}}}
	for k, x := range []struct {
		l                        []api.Entry
		by, tenant, bucket, user string
		rights                   int
		e                        api.Errno
	}{
		{nil, "n1", "", "b", "u", 1, api.ErrArg},
		{nil, "n1", "T", "b", "u", 1, api.ErrArg},
		{nil, "n1", "t", "", "u", 1, api.ErrArg},
		{nil, "n1", "t", "b/", "u", 1, api.ErrArg},
		{nil, "n1", "t", "b", "", 1, api.ErrArg},
		{nil, "n1", "t", "b", "u.v", 1, api.ErrArg},
		{nil, "n1", "t", "b", "u", -1, api.ErrArg},
		{nil, "n1", "t", "b", "u", 8, api.ErrArg},
		{nil, "", "t", "b", "u", 1, api.ErrArg},
		{[]api.Entry{entry("", "")}, "n1", "t", "b", "u", 1, api.ErrArg},
		{last, "n1", "t", "b", "u", 1, api.ErrLong},
		{last, "n1", "t", "b", "u", 8, api.ErrArg},
	} {
		if got, e := Set(x.l, x.by, x.tenant, x.bucket, x.user, x.rights); e != x.e || got != (api.Entry{}) {
			t.Error(k, got, e)
		}
	}
}
