package audit

import (
	"fmt"
	"math/rand/v2"
	"pantler/admin"
	"pantler/api"
	"pantler/book"
	"pantler/cluster"
	"pantler/fair"
	"pantler/object"
	"pantler/plan"
	"pantler/registry"
	"pantler/token"
	"slices"
	"strings"
	"testing"
)

func entry(key, value string) api.Entry {
	return api.Entry{Key: key, Reg: api.Reg{N: 1, Value: value}}
}

func setup(many int) api.Setup {
	s := api.Setup{Entries: []api.Entry{entry("acl/t/b/all", "rwl"), entry("prop/t/b/n", "2"), entry("tenant/t/bytes", "600"), entry("tenant/t/burst", "99"), entry("tenant/t/secret", "x")}}
	slices.SortFunc(s.Entries, func(a, b api.Entry) int { return slices.Compare([]string{a.Key}, []string{b.Key}) })
	for k := range many {
		s.Members = append(s.Members, api.Member{Name: fmt.Sprint("n", k+1), Rack: "r", Zone: "z", Up: true})
	}
	return s
}

func obj(node string, n int, value string) api.Obj {
	o, _ := object.New(nil, api.Sib{Dot: api.Dot{Node: node, N: n}, Value: value})
	return o
}

// states are those of three nodes of which nobody keeps anything, and the keepers of b/k.
func states(t *testing.T) ([]api.State, []string) {
	t.Helper()
	s := setup(3)
	l, e := admin.First(s.Members, s.Entries)
	if e != api.OK {
		t.Fatal(e)
	}
	var all []api.State
	for _, m := range s.Members {
		all = append(all, api.State{Node: m.Name, Entries: slices.Clone(l)})
	}
	return all, plan.Keepers(l, "t", "b/k")
}

// keep lets some nodes keep an object of b/k.
func keep(l []api.State, o api.Obj, nodes ...string) {
	for k := range l {
		if slices.Contains(nodes, l[k].Node) {
			l[k].Book.Items = []api.Item{{Place: "b/k", Obj: o}}
		}
	}
}

func finding(kind int, node, place string) api.Finding {
	return api.Finding{Kind: kind, Node: node, Lane: "t", Place: place}
}

// stranger is who is no keeper.
func stranger(keepers []string) string {
	for _, node := range []string{"n1", "n2", "n3"} {
		if !slices.Contains(keepers, node) {
			return node
		}
	}
	return ""
}

func TestNothingIsFound(t *testing.T) {
	l, keepers := states(t)
	if len(Find(nil, "t"))+len(Find(l, "t"))+len(Places(nil))+len(Places(l))+len(Look(nil, "t"))+len(Look(&cluster.Cluster{}, "t")) != 0 || !object.Same(Whole(nil, "b/k"), api.Obj{}) {
		t.Error("of nothing")
	}
	keep(l, obj("n1", 1, "x"), keepers...)
	if got := Find(l, "t"); len(got) != 0 {
		t.Error(got)
	}
}

func TestEntriesAndRoom(t *testing.T) {
	l, _ := states(t)
	l[1].Entries, _ = registry.Put(l[1].Entries, entry("a", "b"))
	great := api.Obj{Ctx: []api.Seen{{Node: "a", Base: 1}}}
	for k := range 29 {
		for _, m := range []int{1, 2} {
			l[m].Book.Items = append(l[m].Book.Items, api.Item{Place: fmt.Sprintf("x%02d", k), Obj: great})
		}
	}
	// Of places that are none nobody is a keeper. 29 times 19 bytes are within the limit of 600; 50 more are not.
	l[2].Book.Items = append(l[2].Book.Items, api.Item{Place: strings.Repeat("y", 50)})
	room := book.Size(l[2].Book)
	got := Find(l, "t")
	want := []api.Finding{finding(api.FindEntries, "n2", "")}
	if room <= 600 || !slices.Equal(got, []api.Finding{want[0], finding(api.FindRoom, "n3", "")}) {
		t.Error(room, got)
	}
	for k := range l {
		l[k].Entries, _ = registry.Put(l[k].Entries, api.Entry{Key: "tenant/t/bytes", Reg: api.Reg{N: 2, Value: fmt.Sprint(room)}})
	}
	if got := Find(l, "t"); !slices.Equal(got, want) {
		t.Error(got)
	}
	if got := Find(l, "nobody"); len(got) != 1 || got[0] != (api.Finding{Kind: api.FindEntries, Node: "n2", Lane: "nobody"}) {
		t.Error(got)
	}
}

func TestPlacesThatLieElsewhere(t *testing.T) {
	l, keepers := states(t)
	other := stranger(keepers)
	keep(l, obj("n1", 1, "x"), other)
	var want []api.Finding
	for _, node := range []string{"n1", "n2", "n3"} {
		kind := api.FindWant
		if node == other {
			kind = api.FindStray
		}
		want = append(want, finding(kind, node, "b/k"))
	}
	if got := Find(l, "t"); !slices.Equal(got, want) {
		t.Error(got)
	}
	// Also where one alone is to keep it.
	for k := range l {
		l[k].Entries, _ = registry.Put(l[k].Entries, api.Entry{Key: "prop/t/b/n", Reg: api.Reg{N: 2, Value: "1"}})
	}
	one := plan.Keepers(l[0].Entries, "t", "b/k")[0]
	other = stranger([]string{one})
	for k := range l {
		l[k].Book = api.Book{}
	}
	keep(l, obj("n1", 1, "x"), other, one)
	if got := Find(l, "t"); !slices.Equal(got, []api.Finding{finding(api.FindStray, other, "b/k")}) {
		t.Error(got)
	}
	// What others than the first one know does not count.
	for k := range l[1:] {
		l[k+1].Entries = nil
	}
	if got := Find(l, "t"); !slices.Equal(got, []api.Finding{finding(api.FindEntries, "n2", ""), finding(api.FindEntries, "n3", ""), finding(api.FindStray, other, "b/k")}) {
		t.Error(got)
	}
	// Where nobody is to keep it, nobody is a stray.
	for k := range l {
		l[k].Entries = nil
	}
	if got := Find(l, "t"); len(got) != 0 {
		t.Error(got)
	}
}

func TestObjectsThatAreUnlike(t *testing.T) {
	l, keepers := states(t)
	slices.Sort(keepers)
	keep(l, obj("n1", 1, "x"), keepers[0])
	keep(l, obj("n2", 1, "x"), keepers[1])
	if got := Find(l, "t"); !slices.Equal(got, []api.Finding{finding(api.FindUnlike, keepers[1], "b/k")}) {
		t.Error(got)
	}
	keep(l, obj("n1", 1, "y"), keepers[1])
	want := []api.Finding{finding(api.FindUnlike, keepers[1], "b/k"), finding(api.FindTwice, keepers[1], "b/k")}
	if got := Find(l, "t"); !slices.Equal(got, want) {
		t.Error(got)
	}
	// Told of each state that has another value than one ahead, whoever the first one is.
	all, keepers := states(t)
	other := stranger(keepers)
	keep(all, obj("n9", 1, "x"), "n1")
	keep(all, obj("n1", 1, "x"), "n2")
	keep(all, obj("n1", 1, "y"), "n3")
	got := slices.DeleteFunc(Find(all, "t"), func(f api.Finding) bool { return f.Kind == api.FindStray && f.Node == other })
	want = []api.Finding{finding(api.FindUnlike, "n2", "b/k"), finding(api.FindUnlike, "n3", "b/k"), finding(api.FindTwice, "n3", "b/k")}
	if !slices.Equal(got, want) {
		t.Error(got)
	}
}

func TestPlacesAndWhole(t *testing.T) {
	l, _ := states(t)
	l[0].Book.Items = []api.Item{{Place: "z", Obj: obj("a", 1, "")}, {Place: "b", Obj: obj("a", 1, "x")}}
	l[1].Book.Items = []api.Item{{Place: "a"}, {Place: "b", Obj: obj("b", 1, "y")}}
	l[2].Book.Items = []api.Item{{Place: "b", Obj: api.Obj{Ctx: []api.Seen{{Node: "A", Base: 1}}}}, {Place: "z", Obj: obj("c", 1, "")}}
	if got := Places(l); !slices.Equal(got, []string{"a", "b", "z"}) {
		t.Error(got)
	}
	want, _ := object.Merge(obj("a", 1, "x"), obj("b", 1, "y"))
	if got := Whole(l, "b"); !object.Same(got, want) {
		t.Error("what can't be merged is not passed over", got)
	}
	if got := Whole(l, "none"); !object.Same(got, api.Obj{}) {
		t.Error(got)
	}
	got := Whole(l, "z")
	got.Sibs[0].Value, got.Ctx[0].Base = "changed", 9
	if l[0].Book.Items[0].Obj.Sibs[0].Value != "" {
		t.Error("shared")
	}
}

func TestWhatClustersDo(t *testing.T) {
	r := rand.New(rand.NewPCG(61, 62))
	strays := 0
	for range 30 {
		c, e := cluster.New(setup(4))
		if e != api.OK {
			t.Fatal(e)
		}
		for k := range 250 {
			e := api.Event{Kind: []int{api.EvCall, api.EvDeliver, api.EvDeliver, api.EvFlush, api.EvFlush, api.EvTick, api.EvExchange, api.EvHand, api.EvAdmin, api.EvDeliver}[r.IntN(10)], Node: fmt.Sprint("n", 1+r.IntN(4)), To: fmt.Sprint("n", 1+r.IntN(4)), Lane: "t", N: r.IntN(4)}
			e.Call = api.Call{Kind: api.CallPut, Token: token.Make("x", "t", "u", 99), Bucket: "b", Key: fmt.Sprint(r.IntN(4)), Value: fmt.Sprint(k)}
			e.Admin = api.Admin{Kind: api.AdminProp, Tenant: "t", Bucket: "b", Field: "n", N: 1 + r.IntN(3)}
			if e.Kind != api.EvAdmin || r.IntN(3) == 0 {
				c.Step(e)
			}
		}
		l := Look(c, "t")
		if len(l) != 4 || l[2].Node != "n3" || !registry.Same(l[2].Entries, c.Entries("n3")) || book.Size(l[2].Book) != book.Size(c.Book("n3", "t")) {
			t.Fatal(l)
		}
		for _, f := range Find(l, "t") {
			if f.Kind == api.FindTwice || f.Kind == api.FindRoom {
				t.Fatal(f)
			}
			strays++
		}
		fair.Drive(c, 2)
		l = Look(c, "t")
		full := slices.ContainsFunc(c.Deeds(), func(d api.Deed) bool { return d.Answer.Err == api.ErrQuota })
		if got := Find(l, "t"); fair.Settled(c) != (len(got) == 0) || !full && book.Size(l[0].Book) < 300 && len(got) > 0 {
			t.Fatal(got)
		}
	}
	if strays == 0 {
		t.Error("nothing was ever found")
	}
}
