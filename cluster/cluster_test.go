package cluster

import (
	"fmt"
	"math/rand/v2"
	"pantler/api"
	"pantler/book"
	"pantler/dots"
	"pantler/name"
	"pantler/rate"
	"pantler/registry"
	"pantler/token"
	"reflect"
	"slices"
	"strings"
	"testing"
)

func entry(key, value string) api.Entry {
	return api.Entry{Key: key, Reg: api.Reg{N: 1, Value: value}}
}

// setup is a cluster of so many members, with two tenants whose user joe may do anything with the bucket b.
func setup(many int, more ...api.Entry) api.Setup {
	var s api.Setup
	for k := range many {
		s.Members = append(s.Members, api.Member{Name: fmt.Sprint("n", k+1), Rack: fmt.Sprint("r", k%2), Zone: "z", Up: true})
	}
	s.Entries = append([]api.Entry{entry("acl/t/b/joe", "rwl"), entry("acl/u/b/joe", "rwl"), entry("tenant/t/secret", "one"), entry("tenant/u/secret", "two")}, more...)
	slices.SortFunc(s.Entries, func(a, b api.Entry) int { return strings.Compare(a.Key, b.Key) })
	return s
}

// call is an event of joe's call.
func call(node, tenant string, kind int, key, value string) api.Event {
	secret := map[string]string{"t": "one", "u": "two"}[tenant]
	return api.Event{Kind: api.EvCall, Node: node, Lane: tenant, Call: api.Call{Kind: kind, Token: token.Make(secret, tenant, "joe", 1<<40), Bucket: "b", Key: key, Value: value}}
}

func must(t *testing.T, s api.Setup) *Cluster {
	t.Helper()
	c, e := New(s)
	if e != api.OK {
		t.Fatal(e)
	}
	return c
}

// calm delivers all messages of a lane, and flushes it everywhere.
func calm(c *Cluster, lane string) {
	for c.Busy(lane) {
		for c.Under(lane) > 0 {
			c.Step(api.Event{Kind: api.EvDeliver, Lane: lane})
		}
		for _, node := range c.Nodes() {
			c.Step(api.Event{Kind: api.EvFlush, Node: node, Lane: lane})
		}
	}
}

func TestNew(t *testing.T) {
	s := setup(3)
	slices.Reverse(s.Members)
	c := must(t, s)
	if !slices.Equal(c.Nodes(), []string{"n1", "n2", "n3"}) || len(c.Deeds())+len(c.Lanes()) != 0 || c.Busy("") || c.Busy("t") {
		t.Error(c.Nodes())
	}
	for _, node := range c.Nodes() {
		if !c.Up(node) || !registry.Same(c.Entries(node), c.Entries("n1")) || registry.Get(c.Entries(node), "node/n2").Value != "r1/z/up" || len(c.List(node, "t", "b/k")) != 3 {
			t.Error(node)
		}
	}
	c.Nodes()[0] = "changed"
	if c.Up("n4") || c.Up("changed") || len(c.Entries("n4"))+len(c.List("n4", "t", "b/k"))+len(c.Book("n4", "t").Items)+len(c.Sure("n4", "t").Items) != 0 {
		t.Error("a node that is none")
	}
	for k, s := range []api.Setup{{}, {Members: []api.Member{{Name: "N", Rack: "r", Zone: "z"}}}, {Members: append(setup(1).Members, setup(1).Members...)}, {Members: setup(8).Members, Entries: []api.Entry{entry("", "")}}, {Members: setup(9).Members}} {
		if c, e := New(s); e != api.ErrArg || c != nil {
			t.Error(k, e)
		}
		if c, e := Run(s, nil); e != api.ErrArg || c != nil {
			t.Error(k, e)
		}
	}
}

func TestNilAndZero(t *testing.T) {
	for _, c := range []*Cluster{nil, {}} {
		if e := c.Step(api.Event{Kind: api.EvTick, Node: "n1"}); e != api.ErrArg {
			t.Error(e)
		}
		if c.Up("n1") || c.Under("t") != 0 || c.Busy("t") || len(c.Deeds())+len(c.Nodes())+len(c.Lanes())+len(c.Entries("n1"))+len(c.List("n1", "t", "b/k"))+len(c.Book("n1", "t").Items)+len(c.Sure("n1", "t").Mints) != 0 {
			t.Error("a cluster that is none")
		}
	}
}

func TestWhyAnEventDoesNotHappen(t *testing.T) {
	c := must(t, setup(2))
	for _, kind := range []int{0, 15, -1, 1 << 40} {
		if e := c.Step(api.Event{Kind: kind, Node: "n9"}); e != api.ErrArg {
			t.Error(kind, e)
		}
	}
	for _, kind := range []int{api.EvDeliver, api.EvLose, api.EvTwice} {
		if e := c.Step(api.Event{Kind: kind, Node: "n9", Lane: "t"}); e != api.ErrNone {
			t.Error(kind, e)
		}
	}
	at := []int{api.EvCall, api.EvFlush, api.EvTick, api.EvCrash, api.EvStart, api.EvGossip, api.EvExchange, api.EvHand, api.EvReap, api.EvCompact, api.EvAdmin}
	for _, kind := range at {
		if e := c.Step(api.Event{Kind: kind, Node: "n9", Lane: "t"}); e != api.ErrNone {
			t.Error(kind, e)
		}
	}
	if e := c.Step(api.Event{Kind: api.EvAdmin, Node: "n1"}); e != api.ErrArg {
		t.Error(e)
	}
	if e := c.Step(api.Event{Kind: api.EvAdmin, Node: "n1", Admin: api.Admin{Kind: api.AdminGone}}); e != api.ErrNone {
		t.Error(e)
	}
	if e := c.Step(api.Event{Kind: api.EvCrash, Node: "n1"}); e != api.OK || c.Up("n1") || !c.Up("n2") {
		t.Error(e)
	}
	for _, kind := range at {
		want := api.ErrDown
		if kind == api.EvStart {
			continue
		}
		if e := c.Step(api.Event{Kind: kind, Node: "n1", Lane: "t"}); e != want {
			t.Error(kind, e)
		}
	}
	for range 2 {
		if e := c.Step(api.Event{Kind: api.EvStart, Node: "n1"}); e != api.OK || !c.Up("n1") {
			t.Error(e)
		}
	}
	if len(c.Deeds()) != 0 {
		t.Error(c.Deeds())
	}
}

func TestDeeds(t *testing.T) {
	c := must(t, setup(3))
	c.Step(api.Event{Kind: api.EvTick, Node: "n1"})
	put := call("n1", "t", api.CallPut, "k", "v")
	put.Call.Ctx = []api.Seen{{Node: "x", Base: 1, More: []int{3}}}
	if e := c.Step(put); e != api.OK {
		t.Error(e)
	}
	c.Step(call("n2", "t", api.CallGet, "", ""))
	c.Step(api.Event{Kind: api.EvCall, Node: "n2", Lane: "T"})
	l := c.Deeds()
	if len(l) != 2 {
		t.Fatal(l)
	}
	want := api.Deed{Node: "n1", Lane: "t", Op: 1<<20 + 1, Begin: 2, Tick: 1, Call: put.Call}
	if !reflect.DeepEqual(l[0], want) {
		t.Error(l[0])
	}
	if d := l[1]; d.Begin != 3 || d.End != 3 || !d.Done || d.Answer.Err != api.ErrArg || d.Tick != 0 || d.Op != 1<<20+1 {
		t.Error(d)
	}
	put.Call.Ctx[0].More[0] = 99
	l[0].Call.Ctx[0].More[0], l[0].Lane = 99, "changed"
	if got := c.Deeds()[0]; got.Call.Ctx[0].More[0] != 3 || got.Lane != "t" {
		t.Error("deeds are shared")
	}
	calm(c, "t")
	d := c.Deeds()[0]
	if !d.Done || d.Answer.Err != api.OK || d.End <= 4 || d.Answer.Dot != (api.Dot{Node: "n1", N: 1}) {
		t.Error(d)
	}
	c.Step(call("n3", "t", api.CallGet, "k", ""))
	begin := d.End
	calm(c, "t")
	d = c.Deeds()[2]
	if len(d.Answer.Sibs) != 1 || d.Answer.Sibs[0].Value != "v" || d.Begin <= begin {
		t.Error(d)
	}
	d.Answer.Sibs[0].Value = "changed"
	if c.Deeds()[2].Answer.Sibs[0].Value != "v" {
		t.Error("answers are shared")
	}
}

func TestRunIsStepByStep(t *testing.T) {
	l := []api.Event{call("n1", "t", api.CallPut, "k", "v"), {Kind: api.EvFlush, Node: "n1", Lane: "t"}, {Kind: 99}, {Kind: api.EvDeliver, Lane: "t", N: 1}, {Kind: api.EvTick, Node: "n2"}, call("n2", "t", api.CallGet, "k", "")}
	a, e := Run(setup(3), l)
	if e != api.OK {
		t.Fatal(e)
	}
	b := must(t, setup(3))
	for _, x := range l {
		b.Step(x)
	}
	if len(a.Deeds()) != 2 || !reflect.DeepEqual(a.Deeds(), b.Deeds()) || a.Under("t") != b.Under("t") || a.Under("t") != 5 {
		t.Error(a.Deeds())
	}
}

func TestBusy(t *testing.T) {
	c := must(t, setup(2))
	c.Step(api.Event{Kind: api.EvExchange, Node: "n1", To: "n2", Lane: "t"})
	if !c.Busy("t") || c.Busy("u") || c.Busy("") {
		t.Error("one message is under way")
	}
	c.Step(api.Event{Kind: api.EvLose, Lane: "t"})
	if c.Busy("t") {
		t.Error("no message is under way")
	}
	c.Step(call("n1", "t", api.CallPut, "k", "v"))
	if !c.Busy("t") || c.Under("t") != 0 {
		t.Error("something waits")
	}
	c.Step(api.Event{Kind: api.EvCrash, Node: "n1", N: 9})
	if c.Busy("t") {
		t.Error("somebody waits who is down")
	}
}

func TestMessagesAreDeliveredLostAndDoubled(t *testing.T) {
	c := must(t, setup(3))
	c.Step(call("n1", "t", api.CallGet, "k", ""))
	if c.Under("t") != 3 || !c.Busy("t") || c.Busy("u") || c.Under("") != 0 {
		t.Error(c.Under("t"))
	}
	// The question to the second keeper is lost; of the answer of the third one there are two.
	if e := c.Step(api.Event{Kind: api.EvLose, Lane: "t", N: 1}); e != api.OK || c.Under("t") != 2 {
		t.Error(e)
	}
	c.Step(api.Event{Kind: api.EvDeliver, Lane: "t", N: -1})
	if c.Under("t") != 2 {
		t.Error(c.Under("t"))
	}
	if e := c.Step(api.Event{Kind: api.EvTwice, Lane: "t", N: 3}); e != api.OK || c.Under("t") != 3 {
		t.Error(e)
	}
	c.Step(api.Event{Kind: api.EvDeliver, Lane: "t", N: 1})
	c.Step(api.Event{Kind: api.EvDeliver, Lane: "t", N: 1})
	if d := c.Deeds()[0]; d.Done {
		t.Error("one node answered twice", d)
	}
	for c.Under("t") > 0 {
		c.Step(api.Event{Kind: api.EvDeliver, Lane: "t"})
	}
	if d := c.Deeds()[0]; !d.Done || d.Answer.Err != api.ErrNone || c.Busy("t") {
		t.Error(d)
	}
}

func TestNodesSendInTheOrderOfTheirNames(t *testing.T) {
	c := must(t, setup(3))
	for _, node := range []string{"n3", "n1"} {
		c.Step(api.Event{Kind: api.EvGossip, Node: node, To: "n2"})
	}
	if all := c.net.All(""); len(all) != 2 || !strings.Contains(all[0], "n3\x00") {
		t.Error("not in the order of events")
	}
	if !c.Busy("") || len(c.Lanes()) != 0 {
		t.Error("gossip uses a tenant's lane")
	}
	// A message to nobody is delivered to none.
	c.Step(api.Event{Kind: api.EvGossip, Node: "n1", To: "n9"})
	if e := c.Step(api.Event{Kind: api.EvDeliver, N: 2}); e != api.OK || c.Under("") != 2 {
		t.Error(e)
	}
}

func TestLanes(t *testing.T) {
	c := must(t, setup(2))
	for lane, kind := range map[string]int{"t": api.EvCall, "u": api.EvExchange, "v": api.EvHand, "w": api.EvReap, "x": api.EvCompact, "B": api.EvCall, "": api.EvCompact, "f": api.EvFlush, "g": api.EvDeliver, "h": api.EvGossip, "i": api.EvTick} {
		c.Step(api.Event{Kind: kind, Node: "n1", To: "n2", Lane: lane})
	}
	if got := c.Lanes(); !slices.Equal(got, []string{"t", "u", "v", "w", "x"}) {
		t.Error(got)
	}
}

func TestWhatNodesHaveForEvents(t *testing.T) {
	c := must(t, setup(4, entry("prop/t/b/n", "2")))
	for k := range 6 {
		c.Step(call("n1", "t", api.CallPut, fmt.Sprint(k), "v"))
		c.Step(call("n1", "t", api.CallDelete, fmt.Sprint(k), ""))
		calm(c, "t")
	}
	sum := func() (int, int) {
		items, sibs := 0, 0
		for _, node := range c.Nodes() {
			for _, x := range c.Book(node, "t").Items {
				items++
				sibs += len(x.Obj.Sibs)
			}
		}
		return items, sibs
	}
	if a, b := sum(); a != 12 || b != 24 {
		t.Error(a, b)
	}
	if e := c.Step(api.Event{Kind: api.EvReap, Node: "n1", Lane: "t", N: 1}); e != api.OK || len(c.Book("n1", "t").Items) > 0 && !c.Busy("t") {
		t.Error(e)
	}
	for _, node := range c.Nodes() {
		c.Step(api.Event{Kind: api.EvReap, Node: node, Lane: "t", N: 1})
		c.Step(api.Event{Kind: api.EvCompact, Node: node, Lane: "t"})
		if a, b := c.Book(node, "t"), c.Sure(node, "t"); len(a.Items) != len(b.Items) {
			t.Error("not sure", node)
		}
	}
	if a, b := sum(); a != 12 || b != 12 {
		t.Error(a, b)
	}
	// A member is gone: what it kept is handed over, and exchanged.
	for _, a := range []api.Admin{{Kind: api.AdminGone, Member: api.Member{Name: "n2"}}, {Kind: api.AdminClaim}} {
		c.Step(api.Event{Kind: api.EvAdmin, Node: "n1", Admin: a})
		c.Step(api.Event{Kind: api.EvFlush, Node: "n1"})
	}
	for _, node := range c.Nodes() {
		c.Step(api.Event{Kind: api.EvGossip, Node: "n1", To: node})
	}
	calm(c, "")
	for range 2 {
		for _, node := range c.Nodes() {
			for _, other := range c.Nodes() {
				c.Step(api.Event{Kind: api.EvExchange, Node: node, To: other, Lane: "t"})
				calm(c, "t")
			}
			c.Step(api.Event{Kind: api.EvHand, Node: node, Lane: "t"})
			calm(c, "t")
		}
	}
	if a, _ := sum(); a != 12 || len(c.Book("n2", "t").Items) != 0 {
		t.Error("not handed over", a)
	}
	c.Step(call("n3", "t", api.CallPut, "late", "v"))
	for range 8 {
		c.Step(api.Event{Kind: api.EvTick, Node: "n3"})
	}
	if d := c.Deeds(); d[len(d)-1].Answer.Err != api.ErrTime {
		t.Error(d[len(d)-1])
	}
}

// some are events of two tenants, at random.
func some(r *rand.Rand, many, nodes int) []api.Event {
	var l []api.Event
	for range many {
		node, other := fmt.Sprint("n", 1+r.IntN(nodes)), fmt.Sprint("n", 1+r.IntN(nodes))
		lane := []string{"t", "u"}[r.IntN(2)]
		switch k := r.IntN(40); {
		case k < 10:
			e := call(node, lane, 1+r.IntN(3), fmt.Sprint("k", r.IntN(2)), "")
			if e.Call.Kind == api.CallPut {
				e.Call.Value, e.Call.Time = fmt.Sprint(len(l)), r.IntN(5)
			}
			l = append(l, e)
		case k < 24:
			l = append(l, api.Event{Kind: api.EvDeliver, Lane: lane, N: r.IntN(9)})
		case k < 31:
			l = append(l, api.Event{Kind: api.EvFlush, Node: node, Lane: lane})
		case k < 33:
			l = append(l, api.Event{Kind: api.EvTick, Node: node})
		case k < 34:
			l = append(l, api.Event{Kind: api.EvLose + r.IntN(2), Lane: lane, N: r.IntN(9)})
		case k < 35:
			l = append(l, api.Event{Kind: api.EvCrash, Node: node, N: r.IntN(200)}, api.Event{Kind: api.EvStart, Node: node})
		case k < 37:
			l = append(l, api.Event{Kind: api.EvExchange, Node: node, To: other, Lane: lane})
		case k < 38:
			l = append(l, api.Event{Kind: api.EvReap + r.IntN(2), Node: node, Lane: lane, N: r.IntN(5)})
		default:
			l = append(l, call(node, lane, api.CallList, "", ""))
		}
	}
	return l
}

// others tells whether an event is in the lane u.
func others(e api.Event) bool { return e.Lane == "u" }

func TestTenantsDoNotNoticeOneAnother(t *testing.T) {
	r := rand.New(rand.NewPCG(45, 46))
	for range 25 {
		l := some(r, 300, 4)
		a, _ := Run(setup(4), l)
		b, _ := Run(setup(4), slices.DeleteFunc(slices.Clone(l), others))
		told := func(c *Cluster) string {
			out := ""
			for _, d := range c.Deeds() {
				if d.Lane == "t" {
					out += fmt.Sprintln(d.Node, d.Op, d.Tick, d.Call, d.Done, d.Answer)
				}
			}
			for _, node := range c.Nodes() {
				out += fmt.Sprintln(c.Book(node, "t"), c.Sure(node, "t"))
			}
			return out
		}
		if told(a) != told(b) {
			t.Fatal("another tenant's events are noticed")
		}
	}
}

func TestAWriteThatWasAnsweredIsSure(t *testing.T) {
	r := rand.New(rand.NewPCG(47, 48))
	for range 25 {
		c := must(t, setup(4))
		for _, e := range some(r, 250, 4) {
			c.Step(e)
		}
		for _, d := range c.Deeds() {
			if !d.Done || d.Answer.Err != api.OK || d.Answer.Dot.N == 0 {
				continue
			}
			knows := 0
			for _, node := range c.Nodes() {
				o, _ := book.Get(c.Sure(node, d.Lane), name.Join("b", d.Call.Key))
				if dots.Has(o.Ctx, d.Answer.Dot) {
					knows++
				}
			}
			if knows < 2 {
				t.Fatal("a write that was answered is sure at", knows, d)
			}
		}
	}
}

func TestNoMoreCallsGoOnThanTheRateLets(t *testing.T) {
	r := rand.New(rand.NewPCG(49, 50))
	for range 10 {
		c := must(t, setup(2, entry("tenant/t/rate", "1"), entry("tenant/t/burst", "2")))
		for _, e := range some(r, 400, 2) {
			c.Step(e)
		}
		for _, node := range c.Nodes() {
			var ticks []int
			for _, d := range c.Deeds() {
				if d.Node == node && d.Lane == "t" && d.Answer.Err != api.ErrRate && d.Answer.Err != api.ErrBusy {
					ticks = append(ticks, d.Tick)
				}
			}
			for k, from := range ticks {
				for m := k; m < len(ticks); m++ {
					if m-k+1 > rate.Most(from, ticks[m], 1, 2) {
						t.Fatal(node, ticks)
					}
				}
			}
		}
	}
}
