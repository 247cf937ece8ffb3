package topo

import (
	"pantler/api"
	"slices"
	"testing"
)

func member(name, rack, zone string, up bool) api.Member {
	return api.Member{Name: name, Rack: rack, Zone: zone, Up: up}
}

func entry(key, value string) api.Entry {
	return api.Entry{Key: key, Reg: api.Reg{N: 1, Value: value}}
}

func TestKey(t *testing.T) {
	for node, want := range map[string]string{"n1": "node/n1", "": "node/", "A/b": "node/A/b"} {
		if got := Key(node); got != want {
			t.Error(node, got)
		}
	}
}

func TestValue(t *testing.T) {
	for want, m := range map[string]api.Member{"r1/z1/up": member("n1", "r1", "z1", true), "r1/z2/down": member("", "r1", "z2", false), "abcdefghijklmnop/-/up": member("N", "abcdefghijklmnop", "-", true)} {
		if got, e := Value(m); got != want || e != api.OK {
			t.Error(m, got, e)
		}
	}
	for _, m := range []api.Member{member("n", "", "z", true), member("n", "r", "", true), member("n", "R", "z", false), member("n", "r", "z/", false), member("n", "abcdefghijklmnopq", "z", true)} {
		if got, e := Value(m); got != "" || e != api.ErrArg {
			t.Error(m, got, e)
		}
	}
}

func TestMember(t *testing.T) {
	for _, m := range []api.Member{member("n1", "r1", "z1", true), member("n-2", "up", "gone", false), member("abcdefghijklmnop", "0", "-", true)} {
		value, _ := Value(m)
		if got, ok := Member(m.Name, value); got != m || !ok {
			t.Error(m, got, ok)
		}
	}
	for _, x := range [][2]string{{"", "r/z/up"}, {"N", "r/z/up"}, {"n/x", "r/z/up"}, {"n", ""}, {"n", "r/z/gone"}, {"n", "r/z/"}, {"n", "r/z"}, {"n", "r/z/Up"}, {"n", "r/z/up/"}, {"n", "r/z/up/up"}, {"n", "/z/up"}, {"n", "r//up"}, {"n", "R/z/up"}, {"n", "gone"}, {"n", "r/z/down "}, {"n", " r/z/down"}} {
		if got, ok := Member(x[0], x[1]); got != (api.Member{}) || ok {
			t.Error(x, got, ok)
		}
	}
}

func TestMembers(t *testing.T) {
	told := []api.Entry{entry("node/n1", "r1/z1/up"), entry("node/n2", "r2/z1/down")}
	want := []api.Member{member("n1", "r1", "z1", true), member("n2", "r2", "z1", false)}
	if got := Members(told); !slices.Equal(got, want) {
		t.Error(got)
	}
	// Entries that are no members change nothing.
	others := []api.Entry{entry("a", "r1/z1/up"), told[0], entry("node", "r1/z1/up"), entry("node/", "r1/z1/up"), entry("node/n0", "gone"), entry("node/n3", "r1/z1/gone"), entry("node/n4/x", "r1/z1/up"), told[1], entry("node/N", "r1/z1/up"), entry("nodes/n5", "r1/z1/up"), entry("xnode/n6", "r1/z1/up"), entry("ring/1", "n1")}
	if got := Members(others); !slices.Equal(got, want) {
		t.Error(got)
	}
	slices.Reverse(told)
	if got := Members(told); !slices.Equal(got, []api.Member{want[1], want[0]}) {
		t.Error("not as they stand", got)
	}
	if len(Members(nil)) != 0 {
		t.Error("of nothing")
	}
}

func TestUpRacksAndZones(t *testing.T) {
	l := []api.Member{member("c", "r2", "z1", true), member("a", "r1", "z3", false), member("b", "r2", "z1", true), member("d", "r10", "z2", false), member("x", "", "", true)}
	was := slices.Clone(l)
	up := Up(l)
	if !slices.Equal(up, []api.Member{l[0], l[2], l[4]}) {
		t.Error(up)
	}
	if got := Racks(l); !slices.Equal(got, []string{"", "r1", "r10", "r2"}) {
		t.Error(got)
	}
	if got := Zones(l); !slices.Equal(got, []string{"", "z1", "z2", "z3"}) {
		t.Error(got)
	}
	if len(Up(nil))+len(Racks(nil))+len(Zones(nil)) != 0 {
		t.Error("of nothing")
	}
	up[0].Name = "changed"
	_ = append(Up(l[:1]), member("y", "", "", true))
	if !slices.Equal(l, was) {
		t.Error(l)
	}
}
