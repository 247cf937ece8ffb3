package front

import (
	"math"
	"pantler/api"
	"pantler/token"
	"strings"
	"testing"
)

func entry(key, value string) api.Entry {
	return api.Entry{Key: key, Reg: api.Reg{N: 1, Value: value}}
}

// calls are one of each kind, that may be.
func calls() map[int]api.Call {
	ctx := []api.Seen{{Node: "n", Base: 1}}
	return map[int]api.Call{
		api.CallGet:    {Kind: api.CallGet, Bucket: "b", Key: "k"},
		api.CallPut:    {Kind: api.CallPut, Bucket: "b", Key: "k", Value: "v", Ctx: ctx, Time: 5},
		api.CallDelete: {Kind: api.CallDelete, Bucket: "b", Key: "k", Ctx: ctx, Time: 5},
		api.CallList:   {Kind: api.CallList, Bucket: "b"},
	}
}

func TestRight(t *testing.T) {
	for kind, want := range map[int]int{api.CallGet: 1, api.CallPut: 2, api.CallDelete: 2, api.CallList: 4, 0: 0, 5: 0, -1: 0, math.MaxInt: 0} {
		if got := Right(kind); got != want {
			t.Error(kind, got)
		}
	}
}

func TestForm(t *testing.T) {
	const get, put, del, list = api.CallGet, api.CallPut, api.CallDelete, api.CallList
	long := strings.Repeat("v", api.MaxValue)
	key := strings.Repeat("k", api.MaxKey)
	for k, x := range []struct {
		change func(c *api.Call)
		good   []int
	}{
		{func(c *api.Call) {}, []int{get, put, del, list}},
		{func(c *api.Call) { c.Token = "any" }, []int{get, put, del, list}},
		{func(c *api.Call) { c.Bucket = "abcdefghijklmnop" }, []int{get, put, del, list}},
		{func(c *api.Call) { c.Bucket = "" }, nil},
		{func(c *api.Call) { c.Bucket = "B" }, nil},
		{func(c *api.Call) { c.Bucket = "b/c" }, nil},
		{func(c *api.Call) { c.Key = key }, []int{get, put, del}},
		{func(c *api.Call) { c.Key = key + "k" }, nil},
		{func(c *api.Call) { c.Key = "/" }, []int{get, put, del}},
		{func(c *api.Call) { c.Key = "" }, []int{list}},
		{func(c *api.Call) { c.Value = "" }, []int{get, put, del, list}},
		{func(c *api.Call) { c.Value = "x" }, []int{put}},
		{func(c *api.Call) { c.Value = long }, []int{put}},
		{func(c *api.Call) { c.Value = long + "v" }, nil},
		{func(c *api.Call) { c.Ctx = nil }, []int{get, put, del, list}},
		{func(c *api.Call) { c.Ctx = []api.Seen{} }, []int{get, put, del, list}},
		{func(c *api.Call) { c.Ctx = []api.Seen{{Node: "a", More: []int{2}}} }, []int{put, del}},
		{func(c *api.Call) { c.Ctx = []api.Seen{{Node: "a"}} }, nil},
		{func(c *api.Call) { c.Time = 0 }, []int{get, put, del, list}},
		{func(c *api.Call) { c.Time = 1 }, []int{put, del}},
		{func(c *api.Call) { c.Time = api.MaxTime }, []int{put, del}},
		{func(c *api.Call) { c.Time = api.MaxTime + 1 }, nil},
		{func(c *api.Call) { c.Time = -1 }, nil},
		{func(c *api.Call) { c.Kind = 0 }, nil},
		{func(c *api.Call) { c.Kind = 5 }, nil},
		{func(c *api.Call) { c.Kind = -1 }, nil},
	} {
		good := map[int]bool{}
		for _, kind := range x.good {
			good[kind] = true
		}
		for kind, c := range calls() {
			x.change(&c)
			want := api.ErrArg
			if good[kind] {
				want = api.OK
			}
			if got := Form(c); got != want {
				t.Error(k, kind, got)
			}
		}
	}
}

func entries() []api.Entry {
	return []api.Entry{entry("acl/t/b/all", "l"), entry("acl/t/b/joe", "rw"), entry("acl/t/b/ann", "r"), entry("acl/u/b/joe", "rwl"), entry("tenant/t/secret", "one"), entry("tenant/u/secret", "two")}
}

func TestCheck(t *testing.T) {
	for user, good := range map[string][]int{"joe": {api.CallGet, api.CallPut, api.CallDelete, api.CallList}, "ann": {api.CallGet, api.CallList}, "bob": {api.CallList}, "all": {api.CallList}} {
		for kind, c := range calls() {
			c.Token = token.Make("one", "t", user, 9)
			want := api.ErrAccess
			for _, k := range good {
				if k == kind {
					want = api.OK
				}
			}
			if got := Check(entries(), "t", c, 9); got != want {
				t.Error(user, kind, got)
			}
			if got := Check(entries(), "t", c, 10); got != api.ErrToken {
				t.Error("too late", got)
			}
			if got := Check(entries(), "u", c, 9); got != api.ErrToken {
				t.Error("another tenant's token", got)
			}
			other := c
			other.Bucket = "c"
			if got := Check(entries(), "t", other, 9); got != api.ErrAccess {
				t.Error("another bucket", got)
			}
			other.Token = token.Make("two", "t", user, 9)
			if got := Check(entries(), "t", other, 9); got != api.ErrToken {
				t.Error("another secret", got)
			}
			other.Time = -1
			if got := Check(entries(), "t", other, 99); got != api.ErrArg {
				t.Error("what may not be", got)
			}
			c.Token = ""
			if got := Check(entries(), "t", c, 9); got != api.ErrToken {
				t.Error("no token", got)
			}
			if got := Check(nil, "", c, 9); got != api.ErrToken {
				t.Error("no tenant", got)
			}
		}
	}
}
