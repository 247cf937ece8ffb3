package props

import (
	"math"
	"pantler/api"
	"pantler/registry"
	"slices"
	"testing"
)

func entry(key, value string) api.Entry {
	return api.Entry{Key: key, Reg: api.Reg{N: 1, By: "n1", Value: value}}
}

// fields are the names of all, with the numbers they may have.
func fields() map[string][2]int {
	return map[string][2]int{"n": {1, 16}, "r": {1, 16}, "w": {1, 16}, "pr": {0, 16}, "pw": {0, 16}, "several": {0, 1}, "missing": {0, 1}, "basic": {0, 1}}
}

func TestDefaultAndKey(t *testing.T) {
	want := api.Props{N: 3, R: 2, W: 2, PR: 0, PW: 0, Several: true, Missing: true, Basic: false}
	if Default() != want {
		t.Error(Default())
	}
	if Of(nil, "t", "b") != want {
		t.Error(Of(nil, "t", "b"))
	}
	if got := Key("t", "b", "n"); got != "prop/t/b/n" {
		t.Error(got)
	}
	if got := Key("", "B/", "x"); got != "prop//B//x" {
		t.Error(got)
	}
}

func TestOf(t *testing.T) {
	for k, x := range []struct {
		l    []api.Entry
		want api.Props
	}{
		{[]api.Entry{entry("prop/t/b/n", "2")}, api.Props{N: 2, R: 2, W: 2, Several: true, Missing: true}},
		{[]api.Entry{entry("prop/t/b/n", "1")}, api.Props{N: 1, R: 1, W: 1, Several: true, Missing: true}},
		{[]api.Entry{entry("prop/t/b/n", "5"), entry("prop/t/b/r", "3"), entry("prop/t/b/w", "7"), entry("prop/t/b/pr", "16"), entry("prop/t/b/pw", "4"), entry("prop/t/b/several", "0"), entry("prop/t/b/missing", "0"), entry("prop/t/b/basic", "1")}, api.Props{N: 5, R: 3, W: 5, PR: 5, PW: 4, Basic: true}},
		{[]api.Entry{entry("prop/t/b/n", "0"), entry("prop/t/b/r", "0"), entry("prop/t/b/w", "17"), entry("prop/t/b/pr", "-1"), entry("prop/t/b/pw", "+1"), entry("prop/t/b/several", "2"), entry("prop/t/b/missing", ""), entry("prop/t/b/basic", "01")}, Default()},
		{[]api.Entry{entry("prop/t/c/n", "2"), entry("prop/u/b/n", "2"), entry("prop/t/b", "2"), entry("prop/t/b/n/x", "2"), entry("prop/t/b/x", "2")}, Default()},
		{[]api.Entry{entry("prop/t/b/pr", "1"), entry("prop/t/b/n", "17"), entry("prop/t/b/pr", "2"), entry("prop/t/b/n", "5")}, api.Props{N: 3, R: 2, W: 2, PR: 1, Several: true, Missing: true}},
	} {
		if got := Of(x.l, "t", "b"); got != x.want || Check(got) != api.OK {
			t.Error(k, got)
		}
	}
}

// field is what properties have by a field's name.
func field(p api.Props, name string) int {
	truth := func(b bool) int {
		if b {
			return 1
		}
		return 0
	}
	return map[string]int{"n": p.N, "r": p.R, "w": p.W, "pr": p.PR, "pw": p.PW, "several": truth(p.Several), "missing": truth(p.Missing), "basic": truth(p.Basic)}[name]
}

func TestSet(t *testing.T) {
	full := []api.Entry{entry("prop/t/b/n", "16")}
	for name, bounds := range fields() {
		for _, n := range []int{bounds[0], bounds[1]} {
			x, e := Set(full, "n2", "t", "b", name, n)
			if e != api.OK || x.Key != "prop/t/b/"+name || x.Reg.By != "n2" {
				t.Error(name, n, x, e)
			}
			l, e := registry.Put(full, x)
			if e != api.OK || field(Of(l, "t", "b"), name) != n {
				t.Error("what is set is not so", name, n, l, e)
			}
			if other := Of(l, "t", "c"); other != Default() {
				t.Error("another bucket's changed", other)
			}
		}
		for _, n := range []int{bounds[0] - 1, bounds[1] + 1, math.MinInt, math.MaxInt} {
			if x, e := Set(full, "n2", "t", "b", name, n); e != api.ErrArg || x != (api.Entry{}) {
				t.Error(name, n, x, e)
			}
		}
	}
	last := []api.Entry{{Key: "prop/t/b/n", Reg: api.Reg{N: api.MaxVersion}}}
	for k, x := range []struct {
		l                         []api.Entry
		by, tenant, bucket, field string
		e                         api.Errno
	}{
		{nil, "n1", "", "b", "n", api.ErrArg},
		{nil, "n1", "T", "b", "n", api.ErrArg},
		{nil, "n1", "t", "", "n", api.ErrArg},
		{nil, "n1", "t", "b/c", "n", api.ErrArg},
		{nil, "n1", "t", "b", "", api.ErrArg},
		{nil, "n1", "t", "b", "N", api.ErrArg},
		{nil, "n1", "t", "b", "x", api.ErrArg},
		{nil, "", "t", "b", "n", api.ErrArg},
		{slices.Concat(last, last), "n1", "t", "b", "n", api.ErrArg},
		{last, "n1", "t", "b", "n", api.ErrLong},
		{last, "n1", "t", "B", "n", api.ErrArg},
	} {
		if got, e := Set(x.l, x.by, x.tenant, x.bucket, x.field, 1); e != x.e || got != (api.Entry{}) {
			t.Error(k, got, e)
		}
	}
}

func TestCheckAndStrict(t *testing.T) {
	for k, x := range []struct {
		p          api.Props
		ok, strict bool
	}{
		{Default(), true, false},
		{api.Props{N: 1, R: 1, W: 1}, true, false},
		{api.Props{N: 1, R: 1, W: 1, PR: 1}, true, false},
		{api.Props{N: 1, R: 1, W: 1, PR: 1, PW: 1}, true, true},
		{api.Props{N: 3, R: 1, W: 1, PR: 2, PW: 2, Basic: true}, true, true},
		{api.Props{N: 3, R: 3, W: 3, PR: 1, PW: 2}, true, false},
		{api.Props{N: 16, R: 16, W: 16, PR: 16, PW: 16}, true, true},
		{api.Props{}, false, false},
		{api.Props{N: 0, R: 1, W: 1, PR: 1, PW: 1}, false, false},
		{api.Props{N: 17, R: 1, W: 1, PR: 16, PW: 16}, false, false},
		{api.Props{N: 3, R: 0, W: 1, PR: 3, PW: 3}, false, false},
		{api.Props{N: 3, R: 1, W: 0, PR: 3, PW: 3}, false, false},
		{api.Props{N: 3, R: 1, W: 1, PR: -1, PW: 3}, false, false},
		{api.Props{N: 3, R: 1, W: 1, PR: 3, PW: -1}, false, false},
		{api.Props{N: 3, R: 4, W: 1, PR: 3, PW: 3}, false, false},
		{api.Props{N: 3, R: 1, W: 4, PR: 3, PW: 3}, false, false},
		{api.Props{N: 3, R: 1, W: 1, PR: 4, PW: 3}, false, false},
		{api.Props{N: 3, R: 1, W: 1, PR: 3, PW: 4}, false, false},
		{api.Props{N: 3, R: 1, W: 1, PR: math.MaxInt, PW: math.MaxInt}, false, false},
	} {
		if (Check(x.p) == api.OK) != x.ok || !x.ok && Check(x.p) != api.ErrArg || Strict(x.p) != x.strict {
			t.Error(k, Check(x.p), Strict(x.p))
		}
	}
}
