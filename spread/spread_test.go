package spread

import (
	"fmt"
	"math/rand/v2"
	"pantler/admin"
	"pantler/api"
	"pantler/prefer"
	"pantler/registry"
	"pantler/ring"
	"pantler/topo"
	"slices"
	"testing"
)

// entries are those of so many members in so many racks, every second one of which is down.
func entries(t *testing.T, many, racks int) []api.Entry {
	t.Helper()
	var members []api.Member
	for k := range many {
		members = append(members, api.Member{Name: fmt.Sprint("n", k), Rack: fmt.Sprint("r", k%racks), Zone: fmt.Sprint("z", k%2), Up: k%2 == 0})
	}
	l, e := admin.First(members, nil)
	if e != api.OK {
		t.Fatal(e)
	}
	return l
}

func TestLists(t *testing.T) {
	l := entries(t, 5, 2)
	for copies := -1; copies <= 18; copies++ {
		lists := Lists(l, copies)
		if len(lists) != 16 {
			t.Fatal(copies, lists)
		}
		for part, list := range lists {
			if want := prefer.Claimed(ring.Owners(l, 16), topo.Members(l), part, copies); !slices.Equal(list, want) {
				t.Error(copies, part, list)
			}
			want := min(copies, 5)
			if copies < 1 || copies > 16 {
				want = 0
			}
			if len(list) != want {
				t.Error(copies, part, list)
			}
		}
	}
	lists := Lists(nil, 3)
	if len(lists) != 16 || len(slices.Concat(lists...)) != 0 {
		t.Error(lists)
	}
}

func TestShares(t *testing.T) {
	l := entries(t, 3, 1)
	want := []api.Share{{Node: "n0", Owned: 6, Kept: 16}, {Node: "n1", Owned: 5, Kept: 16}, {Node: "n2", Owned: 5, Kept: 16}}
	if got := Shares(l, 3); !slices.Equal(got, want) {
		t.Error(got)
	}
	for k := range want {
		want[k].Kept = want[k].Owned
	}
	if got := Shares(l, 1); !slices.Equal(got, want) {
		t.Error(got)
	}
	for k := range want {
		want[k].Kept = 0
	}
	if got := Shares(l, 0); !slices.Equal(got, want) {
		t.Error(got)
	}
	// Who is a member without a partition keeps what it is chosen for all the same.
	l, _ = registry.Put(l, api.Entry{Key: "node/a", Reg: api.Reg{N: 1, Value: "r9/z/up"}})
	if got := Shares(l, 2); got[0] != (api.Share{Node: "a", Owned: 0, Kept: 16}) {
		t.Error(got)
	}
	if len(Shares(nil, 3)) != 0 {
		t.Error("shares of nobody")
	}
}

func TestLostAndLeast(t *testing.T) {
	l := entries(t, 4, 2)
	for k, x := range []struct {
		copies int
		gone   []string
		lost   int
		least  int
	}{
		{2, nil, 0, 2},
		{2, Rack(l, "r0"), 0, 1},
		{2, Rack(l, "r1"), 0, 1},
		{2, []string{"n0", "n1", "n2", "n3"}, 16, 0},
		{1, []string{"n0"}, 4, 0},
		{1, []string{"n9", "n1", "n1"}, 4, 0},
		{1, []string{"n9"}, 0, 1},
		{4, []string{"n0", "n1"}, 0, 2},
		{16, []string{"n0"}, 0, 3},
		{0, nil, 0, 0},
		{17, []string{"n0"}, 0, 0},
	} {
		lost := Lost(l, x.copies, x.gone)
		if len(lost) != x.lost || !slices.IsSorted(lost) {
			t.Error(k, lost)
		}
		for _, part := range lost {
			for _, node := range Lists(l, x.copies)[part] {
				if !slices.Contains(x.gone, node) {
					t.Error(k, part)
				}
			}
		}
		if got := Least(l, x.copies, x.gone); got != x.least {
			t.Error(k, got)
		}
	}
	if len(Lost(nil, 3, nil)) != 0 || Least(nil, 3, nil) != 0 {
		t.Error("of nobody")
	}
	// One rack: all is lost with it.
	one := entries(t, 3, 1)
	if got := Lost(one, 3, Rack(one, "r0")); len(got) != 16 || got[15] != 15 {
		t.Error(got)
	}
}

func TestRackAndZone(t *testing.T) {
	l := entries(t, 7, 3)
	for got, want := range map[*[]string][]string{ptr(Rack(l, "r0")): {"n0", "n3", "n6"}, ptr(Rack(l, "r2")): {"n2", "n5"}, ptr(Zone(l, "z1")): {"n1", "n3", "n5"}, ptr(Rack(l, "z1")): nil, ptr(Zone(l, "")): nil, ptr(Rack(nil, "r0")): nil} {
		if !slices.Equal(*got, want) {
			t.Error(*got, want)
		}
	}
}

func ptr(l []string) *[]string { return &l }

func TestNoPartitionIsLostWithARack(t *testing.T) {
	r := rand.New(rand.NewPCG(71, 72))
	for range 150 {
		l := entries(t, 2+r.IntN(7), 2+r.IntN(3))
		members := len(topo.Members(l))
		copies := 2 + r.IntN(4)
		for _, rack := range topo.Racks(topo.Members(l)) {
			if lost := Lost(l, copies, Rack(l, rack)); len(lost) > 0 {
				t.Fatal(members, copies, rack, lost)
			}
		}
		kept, owned := 0, 0
		for _, share := range Shares(l, copies) {
			kept += share.Kept
			owned += share.Owned
		}
		if kept != 16*min(copies, members) || owned != 16 {
			t.Fatal(kept, owned)
		}
	}
}
