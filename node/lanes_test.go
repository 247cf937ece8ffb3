package node

import (
	"fmt"
	"pantler/api"
	"pantler/book"
	"pantler/message"
	"pantler/object"
	"pantler/prefer"
	"pantler/registry"
	"slices"
	"testing"
)

// let is how many calls are let at once, till one is refused by the rate.
func let(n *Node, tenant string, c api.Call) int {
	for k := range 70 {
		n.Call(tenant, c)
		for _, x := range n.Told() {
			if x.Answer.Err == api.ErrRate {
				return k
			}
		}
	}
	return 70
}

func TestABucketIsFullFromItsFirstUseOn(t *testing.T) {
	more := []api.Entry{entry("tenant/t/burst", "20"), entry("tenant/t/queue", "64"), entry("tenant/t/rate", "0")}
	w := newWorld(t, 3, more...)
	if got := let(w.nodes["n1"], "t", as("t", get("k"))); got != 20 {
		t.Error(got)
	}
	// Of a lane that was used ahead of its tenant's coming it is 16.
	n := w.nodes["n2"]
	known := n.Entries()
	alone, _ := New("n2", slices.DeleteFunc(slices.Clone(known), func(x api.Entry) bool { return x.Key == "tenant/t/secret" }))
	alone.Flush("t")
	alone.Receive("", message.Bytes(api.Msg{Kind: api.MsgGossip, From: "n1", To: "n2", Entries: known}))
	if got := let(alone, "t", as("t", get("k"))); got != 16 {
		t.Error(got)
	}
	// A question is no use.
	asked, _ := New("n2", slices.DeleteFunc(slices.Clone(known), func(x api.Entry) bool { return x.Key == "tenant/t/secret" }))
	asked.Book("t")
	asked.Open("t")
	asked.Waits("t")
	asked.List("t", "b/k")
	asked.Receive("", message.Bytes(api.Msg{Kind: api.MsgGossip, From: "n1", To: "n2", Entries: known}))
	if got := let(asked, "t", as("t", get("k"))); got != 20 {
		t.Error(got)
	}
}

func TestCompactFlushes(t *testing.T) {
	w := newWorld(t, 3)
	n := w.nodes["n1"]
	n.Call("t", as("t", put("k", "v", nil, 0)))
	if !n.Waits("t") || len(n.Mail()) != 0 {
		t.Error("nothing waits")
	}
	n.Compact("t")
	if n.Waits("t") || len(n.Mail()) != 3 || !sameBook(n.Sure("t"), n.Book("t")) || len(n.Sure("t").Mints) != 1 {
		t.Error("it waits still")
	}
	for _, do := range []func(lane string){n.Compact, n.Hand, func(lane string) { n.Reap(lane, 9) }, func(lane string) { n.Exchange(lane, "n2") }, n.Flush} {
		do("T/")
	}
	n.Compact("")
	if records := n.lanes[""].disk; len(n.Mail()) != 0 || len(records.Bytes()) == 0 || len(n.lanes) != 2 {
		t.Error("what is no tenant has a lane")
	}
}

func TestTicksGoThroughLanesByTheirNames(t *testing.T) {
	for range 8 {
		w := newWorld(t, 3)
		n := w.nodes["n1"]
		n.Call("u", as("u", get("k")))
		n.Call("t", as("t", get("k")))
		n.Call("t", as("t", list()))
		for range 8 {
			n.Tick()
		}
		told := n.Told()
		if len(told) != 3 || told[0].Lane != "t" || told[1].Lane != "t" || told[0].Op >= told[1].Op || told[2].Lane != "u" {
			t.Fatal(told)
		}
	}
}

func TestWhatIsLeftOfACrashGoesOn(t *testing.T) {
	w := newWorld(t, 1)
	n := w.nodes["n1"]
	set := func(tenant string) {
		if e := n.Admin(api.Admin{Kind: api.AdminSecret, Tenant: tenant, Text: "x"}); e != api.OK {
			t.Fatal(e)
		}
	}
	set("v")
	n.Crash(5)
	n.Start()
	set("w")
	n.Flush("")
	n.Crash(0)
	if got := n.Entries(); registry.Get(got, "tenant/v/secret").N != 0 || registry.Get(got, "tenant/w/secret").N != 1 {
		t.Error("a piece of a frame is left", got)
	}
	// Likewise of a tenant's.
	n.Start()
	n.Tick()
	n.Call("t", as("t", put("k", "v", nil, 0)))
	n.Crash(5)
	n.Start()
	n.Tick()
	if a := w.do("n1", "t", put("k", "v", nil, 0)); a.Err != api.ErrQuorum {
		t.Error(a)
	}
	n.Crash(0)
	if got := n.Book("t"); len(got.Mints) != 0 && got.Mints[0].N != 1 {
		t.Error(got)
	}
}

func TestEntriesThatAreTooMany(t *testing.T) {
	var l []api.Entry
	for k := range 4096 {
		l = append(l, entry(fmt.Sprintf("a%05d", k), ""))
	}
	n, e := New("n1", l)
	if e != api.OK {
		t.Fatal(e)
	}
	n.Receive("", message.Bytes(api.Msg{Kind: api.MsgGossip, From: "n2", To: "n1", Entries: []api.Entry{entry("b", "")}}))
	if !registry.Same(n.Entries(), l) || n.Waits("") {
		t.Error("more entries than there may be")
	}
	if e := n.Admin(api.Admin{Kind: api.AdminSecret, Tenant: "v", Text: "x"}); e != api.OK {
		t.Error(e)
	}
	if e := n.Admin(api.Admin{Kind: api.AdminSecret, Tenant: "v", Text: "y"}); e != api.ErrLong {
		t.Error(e)
	}
	n.Flush("")
	if !registry.Same(n.Entries(), l) || n.Waits("") {
		t.Error("more entries than there may be")
	}
}

// strayed is a world in which n1 keeps b/k, of which it is no keeper; n2, n3 and n4 are.
func strayed(t *testing.T) (*world, api.Obj) {
	t.Helper()
	w := newWorld(t, 4)
	keepers := prefer.Nodes(w.nodes["n1"].List("t", "b/k"))
	stray := slices.DeleteFunc(slices.Clone(w.names), func(name string) bool { return slices.Contains(keepers, name) })[0]
	// The nodes take one another's names, so that n1 is the stray.
	if stray != "n1" {
		w.nodes["n1"], w.nodes[stray] = w.nodes[stray], w.nodes["n1"]
	}
	n := w.nodes["n1"]
	o, _ := object.New(nil, api.Sib{Dot: api.Dot{Node: "n9", N: 1}, Value: "v"})
	n.Receive("t", message.Bytes(api.Msg{Kind: api.MsgWrite, From: "n2", To: n.name, Place: "b/k", Obj: o}))
	n.Flush("t")
	n.Mail()
	return w, o
}

// taken lets each keeper of b/k say that it has taken what was handed over by a number.
func taken(n *Node, number int) {
	for _, from := range prefer.Nodes(n.List("t", "b/k")) {
		n.Receive("t", message.Bytes(api.Msg{Kind: api.MsgTaken, From: from, To: n.name, Op: number, Place: "b/k"}))
	}
}

func kept(n *Node) bool {
	_, has := book.Get(n.Book("t"), "b/k")
	return has
}

// copies lets a bucket have so many copies, as a node knows.
func copies(n *Node, number, version int) {
	x := api.Entry{Key: "prop/t/b/n", Reg: api.Reg{N: version, Value: fmt.Sprint(number)}}
	n.Receive("", message.Bytes(api.Msg{Kind: api.MsgGossip, From: "n9", To: n.name, Entries: []api.Entry{x}}))
}

func TestHandOversThatAreOver(t *testing.T) {
	w, o := strayed(t)
	n := w.nodes["n1"]
	hand := message.Bytes(api.Msg{Kind: api.MsgHand, From: "n9", To: n.name, Op: 3, Place: "b/k", Obj: o})
	n.Hand("t")
	n.Mail()
	// Nobody else's hand-over is taken by one who is no keeper.
	n.Receive("t", hand)
	if len(n.Mail()) != 0 {
		t.Error("taken by a stranger")
	}
	// Meanwhile it was a keeper, and was handed over what it has: what was begun ahead is over.
	copies(n, 4, 1)
	n.Receive("t", hand)
	if mail := n.Mail(); len(mail) != 1 {
		t.Error(mail)
	}
	copies(n, 3, 2)
	taken(n, 1<<20+1)
	if !kept(n) {
		t.Error("dropped by a hand-over that is over")
	}
	n.Hand("t")
	taken(n, 1<<20+1)
	if !kept(n) {
		t.Error("dropped by a hand-over that is over")
	}
	taken(n, 1<<20+2)
	if kept(n) || !n.Waits("t") {
		t.Error("not dropped")
	}
	// It comes back: who has taken it once need not have it still.
	n.Receive("t", message.Bytes(api.Msg{Kind: api.MsgWrite, From: "n2", To: n.name, Place: "b/k", Obj: o}))
	taken(n, 1<<20+2)
	if !kept(n) {
		t.Error("dropped without a hand-over")
	}
	n.Crash(1 << 20)
	n.Start()
	n.Hand("t")
	taken(n, 1<<20+3)
	if !kept(n) {
		t.Error("numbers go on from the start")
	}
	taken(n, 2<<20+1)
	if kept(n) {
		t.Error("not dropped")
	}
}

func TestAKeeperDropsNothing(t *testing.T) {
	w, _ := strayed(t)
	n := w.nodes["n1"]
	n.Hand("t")
	copies(n, 4, 1)
	taken(n, 1<<20+1)
	if !kept(n) {
		t.Error("a keeper drops it")
	}
}

func TestOneKeeperIsHandedOver(t *testing.T) {
	w, o := strayed(t)
	n := w.nodes["n1"]
	copies(n, 1, 1)
	n.Hand("t")
	mail := n.Mail()
	if len(mail) != 1 {
		t.Fatal(mail)
	}
	if m, _ := message.Of(mail[0].Bytes); m.Kind != api.MsgHand || !object.Same(m.Obj, o) || m.To != prefer.Nodes(n.List("t", "b/k"))[0] {
		t.Error(m)
	}
	taken(n, 1<<20+1)
	if kept(n) {
		t.Error("not dropped")
	}
	// Without a room, nothing is taken.
	keeper, _ := New(mailTo(mail), n.Entries())
	full := api.Entry{Key: "tenant/t/bytes", Reg: api.Reg{N: 9, Value: "0"}}
	keeper.Receive("", message.Bytes(api.Msg{Kind: api.MsgGossip, From: "n9", To: keeper.name, Entries: []api.Entry{full}}))
	keeper.Receive("t", mail[0].Bytes)
	if len(keeper.Mail()) != 0 || keeper.Waits("t") || kept(keeper) {
		t.Error("taken without room")
	}
}

// mailTo is to whom the first message goes.
func mailTo(mail []api.Mail) string {
	m, _ := message.Of(mail[0].Bytes)
	return m.To
}

// kinds are the kinds of messages.
func kinds(mail []api.Mail) []int {
	var l []int
	for _, x := range mail {
		m, _ := message.Of(x.Bytes)
		l = append(l, m.Kind)
	}
	return l
}

func TestNothingEmptyIsSent(t *testing.T) {
	// Who began gets leaves: what it has alone it sends; what the other one has alone it wants.
	for _, x := range []struct {
		from, to string
		leaves   int
		want     int
	}{{"n1", "n3", 0, api.MsgItems}, {"n3", "n1", 1, api.MsgWant}} {
		w := missed(t, "a")
		w.nodes[x.from].Exchange("t", x.to)
		roots := w.nodes[x.from].Mail()
		w.nodes[x.to].Receive("t", roots[0].Bytes)
		leaves := w.nodes[x.to].Mail()
		if got := kinds(leaves); !slices.Equal(got, []int{api.MsgLeaves}) {
			t.Fatal(got)
		}
		m, _ := message.Of(leaves[0].Bytes)
		if len(m.Texts) != 1 || len(m.Leaves) != x.leaves {
			t.Error(m)
		}
		w.nodes[x.from].Receive("t", leaves[0].Bytes)
		if got := kinds(w.nodes[x.from].Mail()); !slices.Equal(got, []int{x.want}) {
			t.Error(x, got)
		}
	}
	w := missed(t, "a")
	n := w.nodes["n1"]
	n.Receive("t", message.Bytes(api.Msg{Kind: api.MsgWant, From: "n3", To: "n1", Texts: []string{"b/none"}}))
	n.Receive("t", message.Bytes(api.Msg{Kind: api.MsgWant, From: "n9", To: "n1", Texts: []string{"b/a"}}))
	n.Receive("t", message.Bytes(api.Msg{Kind: api.MsgLeaves, From: "n3", To: "n1", Texts: []string{"16", "-1", "x", ""}}))
	if mail := n.Mail(); len(mail) != 0 {
		t.Error(kinds(mail))
	}
	// Numbers that tell no segment are passed over.
	var texts []string
	for k := range 16 {
		texts = append(texts, fmt.Sprint(k))
	}
	n.Receive("t", message.Bytes(api.Msg{Kind: api.MsgLeaves, From: "n3", To: "n1", Texts: append(texts, "x", "17")}))
	if got := kinds(n.Mail()); !slices.Equal(got, []int{api.MsgItems}) {
		t.Error(got)
	}
}
