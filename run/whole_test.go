package run

import (
	"pantler/api"
	"pantler/book"
	"pantler/claim"
	"pantler/cluster"
	"pantler/erase"
	"pantler/fair"
	"pantler/prefer"
	"pantler/registry"
	"pantler/ring"
	"pantler/script"
	"pantler/token"
	"pantler/topo"
	"slices"
	"strings"
	"testing"
)

// stage is a cluster on which the document's examples are played.
type stage struct {
	*cluster.Cluster
	t *testing.T
}

func newStage(t *testing.T, nodes int, more ...api.Entry) stage {
	t.Helper()
	s := setup(nodes)
	for _, x := range more {
		s.Entries, _ = registry.Put(s.Entries, x)
	}
	c, e := cluster.New(s)
	if e != api.OK {
		t.Fatal(e)
	}
	return stage{c, t}
}

// do makes a call, lets all come, and is its answer.
func (s stage) do(e api.Event) api.Answer {
	s.Step(e)
	fair.Calm(s.Cluster, "t")
	d := s.Deeds()
	return d[len(d)-1].Answer
}

// admin does what an administrator does, and lets all nodes know.
func (s stage) admin(a api.Admin) {
	s.t.Helper()
	first := s.Nodes()[0]
	if e := s.Step(api.Event{Kind: api.EvAdmin, Node: first, Admin: a}); e != api.OK {
		s.t.Fatal(e)
	}
	fair.Calm(s.Cluster, "")
	for _, node := range s.Nodes()[1:] {
		s.Step(api.Event{Kind: api.EvGossip, Node: first, To: node})
	}
	fair.Calm(s.Cluster, "")
}

// keep are the nodes that keep something of a place.
func (s stage) keep(place string) []string {
	var l []string
	for _, node := range s.Nodes() {
		if _, has := book.Get(s.Book(node, "t"), place); has {
			l = append(l, node)
		}
	}
	return l
}

func (s stage) list(place string) []string { return prefer.Nodes(s.List("n1", "t", place)) }

func values(a api.Answer) []string {
	var l []string
	for _, x := range a.Sibs {
		l = append(l, x.Value)
	}
	return l
}

func TestWritesThatKnewNothingAndOneThatKnewBoth(t *testing.T) {
	s := newStage(t, 3)
	s.do(call("n1", api.CallPut, "k", "one"))
	s.do(call("n2", api.CallPut, "k", "two"))
	a := s.do(call("n3", api.CallGet, "k", ""))
	if !slices.Equal(values(a), []string{"one", "two"}) {
		t.Error(a)
	}
	third := call("n3", api.CallPut, "k", "three")
	third.Call.Ctx = a.Ctx
	s.do(third)
	if a := s.do(call("n1", api.CallGet, "k", "")); !slices.Equal(values(a), []string{"three"}) {
		t.Error(a)
	}
}

func TestAnotherNodeKeepsACopyAndHandsItOver(t *testing.T) {
	s := newStage(t, 4)
	keepers := s.list("b/k")
	m := api.Member{Name: keepers[1], Rack: "r9", Zone: "z"}
	s.admin(api.Admin{Kind: api.AdminMember, Member: m})
	others := s.list("b/k")
	s.do(call("n1", api.CallPut, "k", "v"))
	if got := s.keep("b/k"); slices.Contains(got, keepers[1]) || len(got) != 3 || slices.Equal(others, keepers) {
		t.Error(got)
	}
	m.Up = true
	s.admin(api.Admin{Kind: api.AdminMember, Member: m})
	for _, node := range s.Nodes() {
		s.Step(api.Event{Kind: api.EvHand, Node: node, Lane: "t"})
	}
	fair.Calm(s.Cluster, "t")
	now := s.list("b/k")
	slices.Sort(now)
	if got := s.keep("b/k"); !slices.Equal(got, now) || !slices.Contains(got, keepers[1]) {
		t.Error(got, now)
	}
}

func TestOneOfThreeCopiesIsReached(t *testing.T) {
	s := newStage(t, 3)
	s.Step(api.Event{Kind: api.EvCrash, Node: "n2"})
	s.Step(api.Event{Kind: api.EvCrash, Node: "n3"})
	s.do(call("n1", api.CallPut, "k", "v"))
	for range 7 {
		s.Step(api.Event{Kind: api.EvTick, Node: "n1"})
	}
	if s.Deeds()[0].Done {
		t.Error("too soon")
	}
	s.Step(api.Event{Kind: api.EvTick, Node: "n1"})
	if d := s.Deeds()[0]; d.Answer.Err != api.ErrTime {
		t.Error(d)
	}
	for _, node := range []string{"n2", "n3"} {
		s.admin(api.Admin{Kind: api.AdminMember, Member: api.Member{Name: node, Rack: "r", Zone: "z"}})
	}
	if a := s.do(call("n1", api.CallPut, "k", "v")); a.Err != api.ErrQuorum {
		t.Error(a)
	}
}

func TestANumberComesAgain(t *testing.T) {
	s := newStage(t, 1, entry("prop/t/b/n", "1"))
	s.Step(call("n1", api.CallPut, "k", "nobody heard of it"))
	s.Step(api.Event{Kind: api.EvCrash, Node: "n1"})
	s.Step(api.Event{Kind: api.EvStart, Node: "n1"})
	s.Step(api.Event{Kind: api.EvTick, Node: "n1"})
	a := s.do(call("n1", api.CallPut, "k", "v"))
	if a.Err != api.OK || a.Dot.N != 1 {
		t.Error(a)
	}
	if a := s.do(call("n1", api.CallGet, "k", "")); !slices.Equal(values(a), []string{"v"}) {
		t.Error(a)
	}
}

func TestBothRacksHaveACopy(t *testing.T) {
	set := setup(5)
	for k := range set.Members {
		set.Members[k].Rack = []string{"a", "b"}[max(0, k-3)]
	}
	c, _ := cluster.New(set)
	for part := range 16 {
		list := prefer.Claimed(ring.Owners(c.Entries("n1"), 16), topo.Members(c.Entries("n1")), part, 3)
		if len(list) != 3 || !slices.Contains(list, "n5") {
			t.Error(part, list)
		}
	}
}

func TestWhoMayNot(t *testing.T) {
	s := newStage(t, 3, entry("tenant/u/secret", "y"), entry("tenant/t/burst", "3"), entry("tenant/t/rate", "1"), entry("tenant/t/queue", "2"))
	stranger := call("n1", api.CallGet, "k", "")
	stranger.Call.Token = token.Make("y", "u", "u", 9)
	elsewhere := call("n1", api.CallGet, "k", "")
	elsewhere.Call.Bucket = "c"
	for want, e := range map[api.Errno]api.Event{api.ErrToken: stranger, api.ErrAccess: elsewhere} {
		if a := s.do(e); a.Err != want {
			t.Error(a)
		}
	}
	get := call("n1", api.CallGet, "k", "")
	s.Step(get)
	s.Step(get)
	if a := s.do(get); a.Err != api.ErrBusy {
		t.Error(a)
	}
	if a := s.do(get); a.Err != api.ErrNone {
		t.Error(a)
	}
	if a := s.do(get); a.Err != api.ErrRate {
		t.Error(a)
	}
}

func TestACopyIsDropped(t *testing.T) {
	s := newStage(t, 3)
	s.do(call("n1", api.CallPut, "k", "v"))
	s.admin(api.Admin{Kind: api.AdminProp, Tenant: "t", Bucket: "b", Field: "n", N: 2})
	now := s.list("b/k")
	slices.Sort(now)
	for _, node := range s.Nodes() {
		s.Step(api.Event{Kind: api.EvHand, Node: node, Lane: "t"})
	}
	for s.Under("t") > 0 {
		s.Step(api.Event{Kind: api.EvDeliver, Lane: "t"})
	}
	if got := s.keep("b/k"); len(now) != 2 || !slices.Equal(got, now) {
		t.Error(got, now)
	}
}

func TestAMemberIsGone(t *testing.T) {
	s := newStage(t, 4)
	was := ring.Owners(s.Entries("n1"), 16)
	s.admin(api.Admin{Kind: api.AdminGone, Member: api.Member{Name: "n3"}})
	s.admin(api.Admin{Kind: api.AdminClaim})
	now := ring.Owners(s.Entries("n2"), 16)
	if slices.Contains(now, "n3") || claim.Moved(was, now) != 4 {
		t.Error(was, now)
	}
}

func TestATenantIsToldTheSameWithoutOthers(t *testing.T) {
	l := events()
	for k := range l {
		if k%2 == 0 {
			l = append(l, api.Event{Kind: l[k].Kind, Node: l[k].Node, Lane: "u", Call: l[k].Call})
		}
	}
	slices.SortStableFunc(l, func(a, b api.Event) int { return strings.Compare(b.Node, a.Node) })
	lines := func(l []api.Event) string {
		var own []string
		for line := range strings.Lines(Run(script.Bytes(setup(2), l))) {
			if strings.HasPrefix(line, "call") && strings.Contains(line, " t ") || strings.HasPrefix(line, "keeps") && strings.Contains(line, " t ") {
				own = append(own, line)
			}
		}
		return strings.Join(own, "")
	}
	if a, b := lines(l), lines(erase.Erase(l, "t")); a != b || a == "" {
		t.Error(a, b)
	}
}
