package ring

import (
	"crypto/sha256"
	"encoding/binary"
	"fmt"
	"pantler/api"
	"pantler/octet"
	"pantler/registry"
	"slices"
	"testing"
)

func entry(key, value string) api.Entry {
	return api.Entry{Key: key, Reg: api.Reg{N: 1, Value: value}}
}

func TestKey(t *testing.T) {
	for part, want := range map[int]string{0: "ring/0", 12: "ring/12", 4095: "ring/4095", -1: "ring/-1"} {
		if got := Key(part); got != want {
			t.Error(part, got)
		}
	}
}

func TestOwners(t *testing.T) {
	l := []api.Entry{entry("ring/1", "b"), entry("ring/0", "a"), entry("ring/1", "c"), entry("ring/2", "N"), entry("ring/3", ""), entry("ring/10", "j"), entry("ring/04", "x"), entry("ring", "y")}
	for parts, want := range map[int][]string{1: {"a"}, 2: {"a", "b"}, 5: {"a", "b", "", "", ""}, 0: nil, -1: nil, api.MaxParts + 1: nil} {
		if got := Owners(l, parts); !slices.Equal(got, want) {
			t.Error(parts, got)
		}
	}
	if got := Owners(l, api.MaxParts); len(got) != api.MaxParts || got[10] != "j" || got[1] != "b" {
		t.Error(len(got))
	}
	if got := Owners(nil, 2); !slices.Equal(got, []string{"", ""}) {
		t.Error(got)
	}
}

func TestPart(t *testing.T) {
	for k := range 300 {
		tenant, place := fmt.Sprint("t", k%3), fmt.Sprint("b/", k)
		var w octet.Writer
		w.Texts([]string{tenant, place})
		sum := sha256.Sum256([]byte(w.Bytes()))
		point := int(binary.BigEndian.Uint32(sum[:4]))
		for _, parts := range []int{1, 2, 3, 16, 1000, api.MaxParts} {
			if got := Part(tenant, place, parts); got != point*parts>>32 || got < 0 || got >= parts {
				t.Error(tenant, place, parts, got)
			}
		}
		for _, parts := range []int{0, -1, api.MaxParts + 1, -1 << 63, 1<<63 - 1} {
			if got := Part(tenant, place, parts); got != 0 {
				t.Error(parts, got)
			}
		}
	}
	seen := map[int]int{}
	for k := range 2000 {
		seen[Part("t", fmt.Sprint("b/", k), 16)]++
	}
	if len(seen) != 16 {
		t.Error("not all partitions are used", seen)
	}
}

func TestEntries(t *testing.T) {
	owners := []string{"a", "b", "", "N", "c", "a", "a", "a", "a", "a", "z", "b"}
	l := Entries(owners)
	want := []api.Entry{entry("ring/0", "a"), entry("ring/1", "b"), entry("ring/10", "z"), entry("ring/11", "b"), entry("ring/4", "c"), entry("ring/5", "a"), entry("ring/6", "a"), entry("ring/7", "a"), entry("ring/8", "a"), entry("ring/9", "a")}
	if !registry.Same(l, want) || registry.Check(l) != api.OK {
		t.Error(l)
	}
	owners[3] = ""
	if got := Owners(l, len(owners)); !slices.Equal(got, owners) {
		t.Error("owners are not told by their entries", got)
	}
	if len(Entries(nil)) != 0 || len(Entries([]string{"", "B"})) != 0 {
		t.Error("entries of nobody")
	}
	all := slices.Repeat([]string{"a"}, api.MaxParts)
	if got := Entries(all); len(got) != api.MaxParts || registry.Check(got) != api.OK || !slices.Equal(Owners(got, api.MaxParts), all) {
		t.Error(len(got))
	}
	if got := Entries(append(all, "a")); len(got) != 0 {
		t.Error(len(got))
	}
}
