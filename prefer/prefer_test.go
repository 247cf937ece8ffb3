package prefer

import (
	"fmt"
	"math/rand/v2"
	"pantler/api"
	"pantler/topo"
	"slices"
	"testing"
)

func member(name, rack, zone string, up bool) api.Member {
	return api.Member{Name: name, Rack: rack, Zone: zone, Up: up}
}

func TestOneGoesFromThePartitionOn(t *testing.T) {
	owners := []string{"a", "b", "c", "d"}
	l := []api.Member{member("a", "r1", "z1", true), member("b", "r2", "z1", true), member("c", "r3", "z1", true), member("d", "r4", "z1", true)}
	for part, want := range [][]string{{"a", "b", "c"}, {"b", "c", "d"}, {"c", "d", "a"}, {"d", "a", "b"}} {
		for _, p := range []int{part, part + 4, part - 8} {
			if got := Claimed(owners, l, p, 3); !slices.Equal(got, want) {
				t.Error(p, got)
			}
		}
	}
}

func TestRacksAndZonesAreSpread(t *testing.T) {
	owners := []string{"a", "b", "c", "d", "e", "f"}
	five := []api.Member{member("a", "r1", "z1", true), member("b", "r1", "z1", true), member("c", "r1", "z1", true), member("d", "r1", "z1", true), member("e", "r1", "z1", true), member("f", "r2", "z1", true)}
	for part, want := range [][]string{{"a", "b", "f"}, {"b", "c", "f"}, {"c", "d", "f"}, {"d", "e", "f"}, {"e", "f", "a"}, {"f", "a", "b"}} {
		if got := Claimed(owners, five, part, 3); !slices.Equal(got, want) {
			t.Error(part, got)
		}
	}
	// Racks come first; where both can be had, zones are spread as well.
	zones := []api.Member{member("a", "r1", "z1", true), member("b", "r2", "z1", true), member("c", "r1", "z2", true), member("d", "r2", "z2", true)}
	if got := Claimed(owners[:4], zones, 0, 2); !slices.Equal(got, []string{"a", "d"}) {
		t.Error(got)
	}
	// Names of racks and zones are told apart.
	same := []api.Member{member("a", "x", "y", true), member("b", "y", "x", true), member("c", "x", "x", true)}
	if got := Claimed([]string{"c", "a", "b"}, same, 0, 2); !slices.Equal(got, []string{"a", "b"}) {
		t.Error(got)
	}
}

func TestOthersStandIn(t *testing.T) {
	owners := []string{"a", "b", "c", "d"}
	l := []api.Member{member("a", "r", "z", true), member("b", "r", "z", false), member("c", "r", "z", true), member("d", "r", "z", true)}
	got := List(owners, l, 0, 3)
	want := []api.Choice{{Node: "a", Primary: true}, {Node: "c", Primary: true}, {Node: "d"}}
	if !slices.Equal(got, want) {
		t.Error(got)
	}
	if p := Primaries(got); !slices.Equal(p, []string{"a", "c"}) {
		t.Error(p)
	}
	if n := Nodes(got); !slices.Equal(n, []string{"a", "c", "d"}) {
		t.Error(n)
	}
	if len(Primaries(nil))+len(Nodes(nil)) != 0 {
		t.Error("names of nobody")
	}
	if !slices.Equal(got, want) {
		t.Error("changed", got)
	}
}

func TestNumbersOfCopies(t *testing.T) {
	var l []api.Member
	var owners []string
	for k := range 20 {
		owners = append(owners, fmt.Sprint("n", k))
		l = append(l, member(owners[k], "r", "z", true))
	}
	for copies, want := range map[int]int{-1: 0, 0: 0, 1: 1, 16: 16, 17: 0, 1 << 40: 0} {
		if got := Claimed(owners, l, 3, copies); len(got) != want {
			t.Error(copies, got)
		}
		if got := List(owners, l, 3, copies); len(got) != want {
			t.Error(copies, got)
		}
	}
	if got := Claimed(owners, l[:2], 3, 16); !slices.Equal(got, []string{"n0", "n1"}) {
		t.Error(got)
	}
	if len(Claimed(owners, nil, 0, 3)) != 0 || len(List(nil, nil, 0, 3)) != 0 {
		t.Error("of nobody")
	}
	if got := Claimed(nil, l[:2], 0, 1); !slices.Equal(got, []string{"n0"}) {
		t.Error("without owners", got)
	}
}

// spread are how many racks and zones so many members have at most, each alone and both at once, tried one by one.
func spread(l []api.Member, many int) (int, int, bool) {
	racks, zones := 0, 0
	pairs := map[[2]int]bool{}
	for set := range 1 << len(l) {
		var some []api.Member
		for k, m := range l {
			if set>>k&1 == 1 {
				some = append(some, m)
			}
		}
		if len(some) == many {
			a, b := len(topo.Racks(some)), len(topo.Zones(some))
			racks, zones = max(racks, a), max(zones, b)
			pairs[[2]int{a, b}] = true
		}
	}
	return racks, zones, pairs[[2]int{racks, zones}]
}

func TestListsAreSpreadAsFarAsCanBe(t *testing.T) {
	r := rand.New(rand.NewPCG(17, 18))
	for range 800 {
		var l []api.Member
		for k := range r.IntN(8) {
			l = append(l, member(fmt.Sprint("n", k), fmt.Sprint("r", r.IntN(3)), fmt.Sprint("z", r.IntN(3)), r.IntN(4) > 0))
		}
		var owners []string
		for range 6 {
			owners = append(owners, fmt.Sprint("n", r.IntN(8)))
		}
		part, copies := r.IntN(6), 1+r.IntN(4)
		list, up, claimed := List(owners, l, part, copies), topo.Up(l), Claimed(owners, l, part, copies)
		var some []api.Member
		for _, c := range list {
			at := slices.IndexFunc(up, func(m api.Member) bool { return m.Name == c.Node })
			if at < 0 || c.Primary != slices.Contains(claimed, c.Node) || len(up) == len(l) && !c.Primary {
				t.Fatal(l, owners, part, copies, list)
			}
			some = append(some, up[at])
		}
		many := min(copies, len(up))
		names := Nodes(list)
		slices.Sort(names)
		if len(slices.Compact(names)) != many {
			t.Fatal("not as many as copies", l, owners, part, copies, list)
		}
		racks, zones, both := spread(up, many)
		if len(topo.Racks(some)) != racks || both && len(topo.Zones(some)) != zones {
			t.Fatal("not spread", l, owners, part, copies, list)
		}
	}
}

func TestManyMembers(t *testing.T) {
	var l []api.Member
	var owners []string
	for k := range api.MaxNodes {
		l = append(l, member(fmt.Sprint("n", k), fmt.Sprint("r", k/4), fmt.Sprint("z", k/100), k%5 > 0))
	}
	for k := range api.MaxParts {
		owners = append(owners, fmt.Sprint("n", k*7%api.MaxNodes))
	}
	list := List(owners, l, 1000, api.MaxCopies)
	if len(list) != api.MaxCopies {
		t.Error(list)
	}
}
