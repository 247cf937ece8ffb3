package fair

import (
	"fmt"
	"math"
	"math/rand/v2"
	"pantler/api"
	"pantler/book"
	"pantler/cluster"
	"pantler/dots"
	"pantler/name"
	"pantler/token"
	"slices"
	"strings"
	"testing"
)

func entry(key, value string) api.Entry {
	return api.Entry{Key: key, Reg: api.Reg{N: 1, Value: value}}
}

// made is a cluster of so many nodes, with two tenants of which all may do anything with the bucket b.
func made(t *testing.T, many int, more ...api.Entry) *cluster.Cluster {
	t.Helper()
	s := api.Setup{Entries: append([]api.Entry{entry("acl/t/b/all", "rwl"), entry("acl/u/b/all", "rwl"), entry("tenant/t/burst", "1000"), entry("tenant/t/secret", "x"), entry("tenant/u/burst", "1000"), entry("tenant/u/secret", "x")}, more...)}
	slices.SortFunc(s.Entries, func(a, b api.Entry) int { return strings.Compare(a.Key, b.Key) })
	for k := range many {
		s.Members = append(s.Members, api.Member{Name: fmt.Sprint("n", k+1), Rack: fmt.Sprint("r", k%2), Zone: fmt.Sprint("z", k%3), Up: true})
	}
	c, e := cluster.New(s)
	if e != api.OK {
		t.Fatal(e)
	}
	return c
}

func call(node, tenant string, kind int, key, value string, ctx []api.Seen) api.Event {
	return api.Event{Kind: api.EvCall, Node: node, Lane: tenant, Call: api.Call{Kind: kind, Token: token.Make("x", tenant, "u", 1<<40), Bucket: "b", Key: key, Value: value, Ctx: ctx}}
}

func TestBound(t *testing.T) {
	for _, x := range [][3]int{{1, 1, 2}, {8, 16, 2}, {math.MaxInt, math.MaxInt, 2}, {0, 16, 0}, {3, 0, 0}, {-1, 5, 0}, {5, -1, 0}} {
		if got := Bound(x[0], x[1]); got != x[2] {
			t.Error(x, got)
		}
	}
}

func TestNobody(t *testing.T) {
	for _, c := range []*cluster.Cluster{nil, {}} {
		if Calm(c, "t") != 0 || Round(c) != 0 || Drive(c, math.MaxInt) != 0 || !Settled(c) {
			t.Error("something happens to nobody")
		}
	}
}

func TestCalm(t *testing.T) {
	c := made(t, 3)
	if got := Calm(c, "t"); got != 0 {
		t.Error("a lane that is calm", got)
	}
	c.Step(call("n1", "t", api.CallPut, "k", "v", nil))
	// The number is flushed; three writes come, and are flushed; three answers come, and all is flushed.
	if got := Calm(c, "t"); got != 3+3+3+3+3 || c.Busy("t") {
		t.Error(got)
	}
	if d := c.Deeds()[0]; !d.Done || d.Answer.Err != api.OK {
		t.Error(d)
	}
	c.Step(call("n1", "t", api.CallGet, "k", "", nil))
	c.Step(api.Event{Kind: api.EvCrash, Node: "n3"})
	// Who is down takes nothing, and flushes nothing.
	if got := Calm(c, "t"); got != 3+2+2+2 || c.Busy("t") || c.Busy("") {
		t.Error(got)
	}
	c.Step(call("n1", "u", api.CallPut, "k", "v", nil))
	if got := Calm(c, "t"); got != 0 || !c.Busy("u") {
		t.Error("another lane is calmed", got)
	}
}

func TestRound(t *testing.T) {
	// Of two nodes: both are started; each gossips to the other one, which is delivered, and flushed by both.
	c := made(t, 2)
	if got := Round(c); got != 2+2*(1+1+2) || !Settled(c) {
		t.Error(got)
	}
	// With a lane in which nothing is: each begins an exchange as well, and hands over.
	c.Step(api.Event{Kind: api.EvHand, Node: "n1", Lane: "t"})
	if got := Round(c); got != 2+2*4+2*4+2 {
		t.Error(got)
	}
	c.Step(api.Event{Kind: api.EvHand, Node: "n1", Lane: "u"})
	if got := Drive(c, 3); got != 3*(2+2*4+2*(2*4+2)) {
		t.Error(got)
	}
	for _, rounds := range []int{0, -1, math.MinInt} {
		if got := Drive(c, rounds); got != 0 {
			t.Error(got)
		}
	}
	c.Step(api.Event{Kind: api.EvCrash, Node: "n2"})
	if Round(c); !c.Up("n2") {
		t.Error("not started")
	}
}

func TestANodeThatWasDownGetsWhatItMissed(t *testing.T) {
	c := made(t, 3)
	c.Step(api.Event{Kind: api.EvCrash, Node: "n3"})
	c.Step(call("n1", "t", api.CallPut, "k", "v", nil))
	Calm(c, "t")
	if d := c.Deeds()[0]; d.Answer.Err != api.OK || Settled(c) {
		t.Error(d)
	}
	Drive(c, 1)
	if o, has := book.Get(c.Book("n3", "t"), "b/k"); !has || o.Sibs[0].Value != "v" || !Settled(c) {
		t.Error(o)
	}
}

func TestSettled(t *testing.T) {
	c := made(t, 3, entry("prop/t/b/n", "2"))
	c.Step(call("n1", "t", api.CallPut, "k", "v", nil))
	Calm(c, "t")
	if !Settled(c) {
		t.Error("not settled")
	}
	c.Step(api.Event{Kind: api.EvAdmin, Node: "n1", Admin: api.Admin{Kind: api.AdminProp, Tenant: "t", Bucket: "b", Field: "n", N: 3}})
	if !Settled(c) {
		t.Error("what was begun is not known yet")
	}
	c.Step(api.Event{Kind: api.EvFlush, Node: "n1"})
	if Settled(c) {
		t.Error("one knows more")
	}
	for _, node := range []string{"n2", "n3"} {
		c.Step(api.Event{Kind: api.EvGossip, Node: "n1", To: node})
	}
	Calm(c, "")
	if Settled(c) {
		t.Error("one is to keep it, and does not")
	}
	Drive(c, 1)
	if !Settled(c) {
		t.Error("not settled")
	}
	c.Step(call("n1", "t", api.CallPut, "k", "w", nil))
	c.Step(api.Event{Kind: api.EvFlush, Node: "n1", Lane: "t"})
	c.Step(api.Event{Kind: api.EvDeliver, Lane: "t"})
	if Settled(c) {
		t.Error("one keeps something else")
	}
	Calm(c, "t")
	if !Settled(c) {
		t.Error("not settled")
	}
	c.Step(api.Event{Kind: api.EvAdmin, Node: "n1", Admin: api.Admin{Kind: api.AdminProp, Tenant: "t", Bucket: "b", Field: "n", N: 1}})
	Round(c)
	if !Settled(c) {
		t.Error("not settled")
	}
	keep := 0
	for _, node := range c.Nodes() {
		keep += len(c.Book(node, "t").Items)
	}
	if keep != 1 {
		t.Error("kept by", keep)
	}
}

func TestOneKeeper(t *testing.T) {
	c := made(t, 3, entry("prop/t/b/n", "1"))
	c.Step(call("n1", "t", api.CallPut, "k", "v", nil))
	Calm(c, "t")
	if !Settled(c) {
		t.Error("not settled")
	}
	// Its keeper is gone: somebody else is to keep it.
	gone := api.Admin{Kind: api.AdminGone, Member: api.Member{Name: c.List("n1", "t", "b/k")[0].Node}}
	c.Step(api.Event{Kind: api.EvAdmin, Node: "n1", Admin: gone})
	Calm(c, "")
	for _, node := range []string{"n2", "n3"} {
		c.Step(api.Event{Kind: api.EvGossip, Node: "n1", To: node})
		Calm(c, "")
	}
	if Settled(c) {
		t.Error("it lies elsewhere")
	}
	Drive(c, 2)
	if !Settled(c) {
		t.Error("not settled")
	}
}

// rounded is a fair round by the words, event by event; how many there were.
func rounded(c *cluster.Cluster) int {
	events := 0
	step := func(e api.Event) {
		c.Step(e)
		events++
	}
	calm := func(lane string) {
		for k := 0; k < 64 && c.Busy(lane); k++ {
			for many := c.Under(lane); many > 0; many-- {
				step(api.Event{Kind: api.EvDeliver, Lane: lane})
			}
			for _, node := range c.Nodes() {
				if c.Up(node) {
					step(api.Event{Kind: api.EvFlush, Node: node, Lane: lane})
				}
			}
		}
	}
	for _, node := range c.Nodes() {
		step(api.Event{Kind: api.EvStart, Node: node})
	}
	for _, lane := range append([]string{""}, c.Lanes()...) {
		calm(lane)
	}
	each := func(kind int, lane string) {
		for _, first := range c.Nodes() {
			for _, other := range c.Nodes() {
				if first != other {
					step(api.Event{Kind: kind, Node: first, To: other, Lane: lane})
					calm(lane)
				}
			}
		}
	}
	each(api.EvGossip, "")
	for _, lane := range c.Lanes() {
		each(api.EvExchange, lane)
	}
	for _, lane := range c.Lanes() {
		for _, node := range c.Nodes() {
			step(api.Event{Kind: api.EvHand, Node: node, Lane: lane})
		}
		calm(lane)
	}
	return events
}

func TestARoundGoesByTheWords(t *testing.T) {
	for k := range 20 {
		seed, many := uint64(k), 2+k%3
		a, b := made(t, many), made(t, many)
		happen(a, rand.New(rand.NewPCG(seed, 1)), 150)
		happen(b, rand.New(rand.NewPCG(seed, 1)), 150)
		if x, y := Round(a), rounded(b); x != y || fmt.Sprint(a.Deeds()) != fmt.Sprint(b.Deeds()) {
			t.Error(k, x, y)
		}
	}
}

// happen lets events happen at random; some of them change what is to be kept where.
func happen(c *cluster.Cluster, r *rand.Rand, many int) {
	ctx := map[string][]api.Seen{}
	node := func() string { return c.Nodes()[r.IntN(len(c.Nodes()))] }
	for k := range many {
		lane, key := []string{"t", "u", ""}[r.IntN(3)], fmt.Sprint("k", r.IntN(5))
		switch m := r.IntN(50); {
		case m < 10 && lane != "":
			kind := api.CallPut + r.IntN(2)
			value := fmt.Sprint(k)[:max(0, api.CallDelete-kind)]
			c.Step(call(node(), lane, kind, key, value, ctx[lane+key]))
		case m < 25:
			c.Step(api.Event{Kind: api.EvDeliver, Lane: lane, N: r.IntN(5)})
		case m < 35:
			c.Step(api.Event{Kind: api.EvFlush, Node: node(), Lane: lane})
		case m < 37:
			c.Step(api.Event{Kind: api.EvLose + r.IntN(2), Lane: lane, N: r.IntN(5)})
		case m < 39:
			c.Step(api.Event{Kind: api.EvCrash, Node: node(), N: r.IntN(300)})
		case m < 42:
			c.Step(api.Event{Kind: api.EvStart, Node: node()})
			c.Step(api.Event{Kind: api.EvTick, Node: node()})
		case m < 44:
			c.Step(api.Event{Kind: []int{api.EvGossip, api.EvExchange, api.EvHand}[r.IntN(3)], Node: node(), To: node(), Lane: lane})
		case m < 45:
			c.Step(api.Event{Kind: api.EvReap + r.IntN(2), Node: node(), Lane: lane, N: 1})
		case m < 47:
			c.Step(api.Event{Kind: api.EvAdmin, Node: node(), Admin: change(r, node())})
		default:
			for _, d := range c.Deeds() {
				if d.Done && d.Answer.Err == api.OK && r.IntN(4) == 0 {
					ctx[d.Lane+d.Call.Key] = d.Answer.Ctx
				}
			}
		}
	}
}

// change is something that changes what is to be kept where.
func change(r *rand.Rand, node string) api.Admin {
	switch r.IntN(5) {
	case 0:
		return api.Admin{Kind: api.AdminProp, Tenant: "t", Bucket: "b", Field: "n", N: 1 + r.IntN(4)}
	case 1:
		return api.Admin{Kind: api.AdminGone, Member: api.Member{Name: node}}
	case 2, 3:
		return api.Admin{Kind: api.AdminMember, Member: api.Member{Name: node, Rack: fmt.Sprint("r", r.IntN(3)), Zone: "z", Up: r.IntN(4) > 0}}
	}
	return api.Admin{Kind: api.AdminClaim}
}

// knownTo tells whether somebody knows a write.
func knownTo(c *cluster.Cluster, lane, key string, d api.Dot) bool {
	return slices.ContainsFunc(c.Nodes(), func(node string) bool {
		o, _ := book.Get(c.Book(node, lane), name.Join("b", key))
		return dots.Has(o.Ctx, d)
	})
}

func TestBehindFairRoundsAllIsSettled(t *testing.T) {
	r := rand.New(rand.NewPCG(53, 54))
	wrote := 0
	for k := range 60 {
		c := made(t, 1+r.IntN(5))
		happen(c, r, 100+r.IntN(400))
		Drive(c, Bound(len(c.Nodes()), api.Parts))
		if !Settled(c) || c.Busy("") || c.Busy("t") || c.Busy("u") {
			t.Fatal(k, "not settled")
		}
		for _, d := range c.Deeds() {
			if d.Done && d.Answer.Err == api.OK && d.Answer.Dot.N > 0 {
				wrote++
				if !knownTo(c, d.Lane, d.Call.Key, d.Answer.Dot) {
					t.Fatal(k, "a write that was answered is lost", d)
				}
			}
		}
		before := Round(c)
		if again := Round(c); !Settled(c) || again != before {
			t.Fatal(k, "something happens still", before, again)
		}
	}
	if wrote < 100 {
		t.Error("too few writes", wrote)
	}
}
