package node

import (
	"fmt"
	"pantler/admin"
	"pantler/api"
	"pantler/book"
	"pantler/frame"
	"pantler/message"
	"pantler/object"
	"pantler/prefer"
	"pantler/registry"
	"pantler/regwire"
	"pantler/token"
	"slices"
	"strings"
	"testing"
)

func entry(key, value string) api.Entry {
	return api.Entry{Key: key, Reg: api.Reg{N: 1, Value: value}}
}

// tenants are entries of two tenants, whose user joe may do anything with the bucket b.
func tenants(more ...api.Entry) []api.Entry {
	l := append([]api.Entry{entry("acl/t/b/joe", "rwl"), entry("acl/u/b/joe", "rwl"), entry("tenant/t/secret", "one"), entry("tenant/u/secret", "two")}, more...)
	slices.SortFunc(l, func(a, b api.Entry) int { return strings.Compare(a.Key, b.Key) })
	return l
}

// world are nodes, and messages that go between them.
type world struct {
	t     *testing.T
	nodes map[string]*Node
	names []string
	told  map[string][]api.Told
	mail  []api.Mail
}

// newWorld are so many nodes in racks of their own, that know entries.
func newWorld(t *testing.T, many int, more ...api.Entry) *world {
	t.Helper()
	w := &world{t: t, nodes: map[string]*Node{}, told: map[string][]api.Told{}}
	var members []api.Member
	for k := range many {
		w.names = append(w.names, fmt.Sprint("n", k+1))
		members = append(members, api.Member{Name: w.names[k], Rack: fmt.Sprint("r", k+1), Zone: "z", Up: true})
	}
	l, e := admin.First(members, tenants(more...))
	if e != api.OK {
		t.Fatal(e)
	}
	for _, name := range w.names {
		if w.nodes[name], e = New(name, l); e != api.OK {
			t.Fatal(e)
		}
	}
	return w
}

// gather takes what nodes sent and told.
func (w *world) gather() {
	for _, name := range w.names {
		w.mail = append(w.mail, w.nodes[name].Mail()...)
		w.told[name] = append(w.told[name], w.nodes[name].Told()...)
	}
}

// deliver lets the first message that is under way come; whether there was one.
func (w *world) deliver() bool {
	w.gather()
	if len(w.mail) == 0 {
		return false
	}
	first := w.mail[0]
	w.mail = w.mail[1:]
	m, e := message.Of(first.Bytes)
	if e != api.OK {
		w.t.Fatal("no message", e)
	}
	if n := w.nodes[m.To]; n != nil {
		n.Receive(first.Lane, first.Bytes)
	}
	w.gather()
	return true
}

// calm lets all messages come, and all be sure.
func (w *world) calm() {
	for busy := true; busy; {
		for w.deliver() {
		}
		busy = false
		for _, name := range w.names {
			for _, lane := range []string{"", "t", "u"} {
				if n := w.nodes[name]; n.Waits(lane) {
					n.Flush(lane)
					busy = true
				}
			}
		}
		w.gather()
		busy = busy || len(w.mail) > 0
	}
}

// answer is what a call was answered, if it was, once.
func (w *world) answer(name, lane string, op int) (api.Answer, bool) {
	w.t.Helper()
	w.gather()
	var found []api.Answer
	for _, x := range w.told[name] {
		if x.Op == op && x.Lane == lane {
			found = append(found, x.Answer)
		}
	}
	if len(found) > 1 {
		w.t.Fatal("answered twice", op)
	}
	if len(found) == 0 {
		return api.Answer{}, false
	}
	return found[0], true
}

// do makes a call of joe's, and lets all come.
func (w *world) do(name, tenant string, c api.Call) api.Answer {
	w.t.Helper()
	op := w.nodes[name].Call(tenant, as(tenant, c))
	w.calm()
	a, ok := w.answer(name, tenant, op)
	if !ok {
		w.t.Fatal("not answered", c)
	}
	return a
}

// as is a call by joe's token.
func as(tenant string, c api.Call) api.Call {
	c.Token = token.Make(map[string]string{"t": "one", "u": "two"}[tenant], tenant, "joe", 1<<40)
	return c
}

func put(key, value string, ctx []api.Seen, time int) api.Call {
	return api.Call{Kind: api.CallPut, Bucket: "b", Key: key, Value: value, Ctx: ctx, Time: time}
}

func get(key string) api.Call { return api.Call{Kind: api.CallGet, Bucket: "b", Key: key} }

func remove(key string, ctx []api.Seen) api.Call {
	return api.Call{Kind: api.CallDelete, Bucket: "b", Key: key, Ctx: ctx}
}

func list() api.Call { return api.Call{Kind: api.CallList, Bucket: "b"} }

// values are the values of an answer.
func values(a api.Answer) []string {
	var l []string
	for _, s := range a.Sibs {
		l = append(l, s.Value)
	}
	return l
}

func sameBook(a, b api.Book) bool {
	x, _ := book.Bytes(a)
	y, _ := book.Bytes(b)
	return x == y
}

func TestNew(t *testing.T) {
	l := tenants()
	n, e := New("n1", l)
	if e != api.OK || !n.Up() || n.Now() != 0 || !registry.Same(n.Entries(), l) || n.Waits("") || n.Waits("t") || n.Open("t") != 0 || len(n.Mail())+len(n.Told()) != 0 {
		t.Fatal(e)
	}
	bytes, _ := regwire.Bytes(l)
	if got := n.lanes[""].disk; got.Bytes() != frame.Put(bytes) || got.Sure() != len(got.Bytes()) {
		t.Error("the entries are not sure")
	}
	for k, x := range []struct {
		name string
		l    []api.Entry
	}{{"", l}, {"N", l}, {"n1", []api.Entry{l[1], l[0]}}, {"n1", []api.Entry{entry("", "")}}} {
		if n, e := New(x.name, x.l); e != api.ErrArg || n != nil {
			t.Error(k, e)
		}
	}
	l[0].Key = "changed"
	n.Entries()[1].Key = "changed"
	if !registry.Same(n.Entries(), tenants()) {
		t.Error("entries are shared")
	}
}

func TestNilAndZero(t *testing.T) {
	for _, n := range []*Node{nil, {}} {
		n.Start()
		if got := n.Call("t", as("t", get("k"))); got != 0 {
			t.Error(got)
		}
		n.Receive("t", message.Bytes(api.Msg{Kind: 1, From: "a", To: "a"}))
		n.Flush("")
		n.Flush("t")
		n.Tick()
		n.Crash(1)
		n.Start()
		n.Gossip("a")
		n.Exchange("t", "a")
		n.Hand("t")
		n.Reap("t", 9)
		n.Compact("t")
		if e := n.Admin(api.Admin{Kind: api.AdminClaim}); e != api.ErrDown {
			t.Error(e)
		}
		b, s := n.Book("t"), n.Sure("t")
		if n.Up() || n.Now() != 0 || n.Open("t") != 0 || n.Waits("t") || n.Waits("") || len(n.Mail())+len(n.Told())+len(n.Entries())+len(n.List("t", "b/k"))+len(b.Items)+len(b.Mints)+len(s.Items)+len(s.Mints) != 0 {
			t.Error("a node that is none")
		}
	}
}

func TestList(t *testing.T) {
	w := newWorld(t, 5, entry("prop/t/b/n", "4"))
	for place, want := range map[string]int{"b/k": 4, "c/k": 3, "b//": 4, "b": 0, "": 0, "B/k": 0} {
		if got := w.nodes["n1"].List("t", place); len(got) != want {
			t.Error(place, got)
		}
	}
	if got := w.nodes["n1"].List("u", "b/k"); len(got) != 3 {
		t.Error("another tenant's properties", got)
	}
}

func TestNumbersOfCalls(t *testing.T) {
	w := newWorld(t, 1)
	n := w.nodes["n1"]
	for k := range 3 {
		if got := n.Call("t", api.Call{}); got != 1<<20+1+k {
			t.Error(got)
		}
	}
	if got := n.Call("u", api.Call{}); got != 1<<20+1 {
		t.Error("another lane's", got)
	}
	for _, tenant := range []string{"", "T", "a/b"} {
		if got := n.Call(tenant, as("t", get("k"))); got != 0 {
			t.Error(tenant, got)
		}
	}
	if told := n.Told(); len(told) != 4 || told[0].Answer.Err != api.ErrArg || told[3].Lane != "u" || told[2].Op != 1<<20+3 {
		t.Error(told)
	}
	n.Crash(0)
	if got := n.Call("t", api.Call{}); got != 0 || len(n.Told()) != 0 {
		t.Error("a node that is down", got)
	}
	n.Start()
	n.Start()
	if got := n.Call("t", api.Call{}); got != 2<<20+1 {
		t.Error(got)
	}
}

func TestANodeAlone(t *testing.T) {
	w := newWorld(t, 1, entry("prop/t/b/n", "1"))
	if a := w.do("n1", "t", get("k")); a.Err != api.ErrNone || len(a.Sibs)+len(a.Ctx)+len(a.Keys) != 0 {
		t.Error(a)
	}
	first := w.do("n1", "t", put("k", "one", nil, 1))
	if first.Err != api.OK || first.Dot != (api.Dot{Node: "n1", N: 1}) || len(first.Ctx) != 1 || first.Ctx[0].Base != 1 {
		t.Error(first)
	}
	second := w.do("n1", "t", put("k", "two", nil, 2))
	a := w.do("n1", "t", get("k"))
	if a.Err != api.OK || !slices.Equal(values(a), []string{"one", "two"}) || a.Ctx[0].Base != 2 || second.Dot.N != 2 {
		t.Error("two writes that knew nothing of one another", a)
	}
	w.do("n1", "t", put("k", "three", a.Ctx, 3))
	if a = w.do("n1", "t", get("k")); !slices.Equal(values(a), []string{"three"}) {
		t.Error("a third one that knew both", a)
	}
	if l := w.do("n1", "t", list()); l.Err != api.OK || !slices.Equal(l.Keys, []string{"k"}) {
		t.Error(l)
	}
	gone := w.do("n1", "t", remove("k", a.Ctx))
	if gone.Err != api.OK || gone.Dot.N != 4 {
		t.Error(gone)
	}
	if a = w.do("n1", "t", get("k")); a.Err != api.OK || len(a.Sibs) != 0 || a.Ctx[0].Base != 4 {
		t.Error("what is gone is told", a)
	}
	if l := w.do("n1", "t", list()); len(l.Keys) != 0 {
		t.Error(l)
	}
	n := w.nodes["n1"]
	n.Reap("t", 0)
	if len(n.Book("t").Items[0].Obj.Sibs) != 1 {
		t.Error("reaped too soon")
	}
	n.Reap("t", 1)
	if got := n.Book("t"); len(got.Items) != 1 || len(got.Items[0].Obj.Sibs) != 0 || !n.Waits("t") {
		t.Error(got)
	}
	w.calm()
	before := len(n.lanes["t"].disk.Bytes())
	n.Compact("t")
	bytes, _ := book.Bytes(n.Book("t"))
	if got := n.lanes["t"].disk; got.Bytes() != bytes || got.Sure() != len(bytes) || len(bytes) >= before || n.Waits("t") {
		t.Error("not as few bytes as can be")
	}
	if n.Open("t") != 0 || !sameBook(n.Sure("t"), n.Book("t")) {
		t.Error("something goes on")
	}
}

func TestWhyACallDoesNotGoOn(t *testing.T) {
	w := newWorld(t, 3, entry("tenant/t/queue", "2"), entry("tenant/t/burst", "3"), entry("tenant/t/rate", "1"))
	n := w.nodes["n1"]
	refusal := func(c api.Call) api.Errno {
		a, ok := w.answer("n1", "t", n.Call("t", c))
		if !ok {
			return api.OK
		}
		if a.Err == api.OK || len(a.Sibs)+len(a.Ctx)+len(a.Keys) != 0 || a.Dot != (api.Dot{}) {
			t.Error(a)
		}
		return a.Err
	}
	bad := as("t", get("k"))
	bad.Value = "x"
	other := as("t", get("k"))
	other.Bucket = "c"
	for want, c := range map[api.Errno]api.Call{api.ErrArg: bad, api.ErrToken: as("u", get("k")), api.ErrAccess: other} {
		if got := refusal(c); got != want {
			t.Error(want, got)
		}
	}
	c := as("t", get("k"))
	for k, want := range []api.Errno{api.OK, api.OK, api.ErrBusy, api.ErrBusy} {
		if got := refusal(c); got != want || n.Open("t") != min(k+1, 2) {
			t.Error(k, got)
		}
	}
	w.calm()
	if n.Open("t") != 0 {
		t.Error("reads go on behind all answers")
	}
	for k, want := range []api.Errno{api.OK, api.ErrRate} {
		if got := refusal(c); got != want {
			t.Error(k, got)
		}
		w.calm()
	}
	n.Tick()
	for k, want := range []api.Errno{api.OK, api.ErrRate} {
		if got := refusal(c); got != want {
			t.Error("a tick later", k, got)
		}
		w.calm()
	}
	// Of a value that the node is to make itself, its caller can know nothing.
	n.Tick()
	if a := w.do("n1", "t", put("k", "x", []api.Seen{{Node: "n1", Base: 1}}, 0)); a.Err != api.ErrArg || len(n.Book("t").Mints) != 0 {
		t.Error(a)
	}
	if a := w.do("n2", "u", put("k", "x", nil, 0)); a.Err != api.OK {
		t.Error("another tenant", a)
	}
}

func TestAWriteIsAnsweredWhenItIsSure(t *testing.T) {
	w := newWorld(t, 3)
	n := w.nodes["n1"]
	op := n.Call("t", as("t", put("k", "v", nil, 7)))
	if !n.Waits("t") || n.Open("t") != 1 || len(n.Mail()) != 0 || n.Book("t").Mints[0].N != 1 || len(n.Sure("t").Mints) != 0 {
		t.Error("the number is not sure yet")
	}
	n.Flush("t")
	if n.Waits("t") || len(n.Sure("t").Mints) != 1 {
		t.Error("what was flushed is not sure")
	}
	w.gather()
	if len(w.mail) != 3 {
		t.Fatal(len(w.mail))
	}
	for w.deliver() {
	}
	if _, ok := w.answer("n1", "t", op); ok {
		t.Error("answered, though nothing is sure")
	}
	w.nodes["n2"].Flush("t")
	for w.deliver() {
	}
	if _, ok := w.answer("n1", "t", op); ok {
		t.Error("answered, though one copy is sure")
	}
	w.nodes["n3"].Flush("t")
	for w.deliver() {
	}
	a, ok := w.answer("n1", "t", op)
	if !ok || a.Err != api.OK || a.Dot.N != 1 || n.Open("t") != 0 {
		t.Error(a, ok)
	}
	for _, name := range []string{"n2", "n3"} {
		if o, has := book.Get(w.nodes[name].Sure("t"), "b/k"); !has || o.Sibs[0] != (api.Sib{Dot: a.Dot, Value: "v", Time: 7}) {
			t.Error(name, o)
		}
	}
}

func TestPatience(t *testing.T) {
	w := newWorld(t, 3)
	n := w.nodes["n1"]
	w.do("n2", "t", put("k", "v", nil, 0))
	ops := []int{n.Call("t", as("t", put("k", "w", nil, 0))), n.Call("t", as("t", get("k"))), n.Call("t", as("t", list()))}
	n.Mail()
	for range 7 {
		n.Tick()
	}
	if n.Open("t") != 3 || len(n.Told()) != 0 {
		t.Error("too soon")
	}
	n.Tick()
	told := n.Told()
	if n.Open("t") != 0 || len(told) != 3 || n.Now() != 8 {
		t.Fatal(told)
	}
	for k, x := range told {
		if x.Op != ops[k] || x.Lane != "t" || x.Answer.Err != api.ErrTime || len(x.Answer.Ctx) != 0 {
			t.Error(x)
		}
	}
	// Behind its end nothing answers a call any more.
	n.Receive("t", message.Bytes(api.Msg{Kind: api.MsgHas, From: "n2", To: "n1", Op: ops[1]}))
	if len(n.Told()) != 0 {
		t.Error("answered twice")
	}
}

func TestAQuorumThatCantBe(t *testing.T) {
	w := newWorld(t, 3, entry("prop/t/b/pw", "1"), entry("tenant/u/bytes", "0"))
	n := w.nodes["n1"]
	if a := w.do("n1", "u", put("k", "v", nil, 0)); a.Err != api.ErrQuota {
		t.Error("without room", a)
	}
	op := n.Call("t", as("t", get("k")))
	for _, from := range []string{"n2", "n3"} {
		n.Receive("t", message.Bytes(api.Msg{Kind: api.MsgHas, From: from, To: "n1", Op: op, Err: api.ErrDown}))
	}
	if a, ok := w.answer("n1", "t", op); !ok || a.Err != api.ErrQuorum || n.Open("t") != 1 {
		t.Error(a, ok)
	}
	op = n.Call("t", as("t", put("k", "v", nil, 0)))
	for _, from := range []string{"n2", "n3"} {
		n.Receive("t", message.Bytes(api.Msg{Kind: api.MsgWritten, From: from, To: "n1", Op: op, Err: api.ErrArg}))
	}
	if a, ok := w.answer("n1", "t", op); !ok || a.Err != api.ErrQuorum || n.Open("t") != 1 {
		t.Error(a, ok)
	}
	op = n.Call("t", as("t", list()))
	n.Receive("t", message.Bytes(api.Msg{Kind: api.MsgKeys, From: "n2", To: "n1", Op: op, Err: api.ErrDown}))
	if a, ok := w.answer("n1", "t", op); !ok || a.Err != api.ErrQuorum {
		t.Error(a, ok)
	}
	// Without anybody who is up, nothing goes on: a list of nobody's is whole.
	alone, _ := New("n1", tenants())
	for _, x := range []struct {
		c    api.Call
		want api.Errno
	}{{get("k"), api.ErrQuorum}, {put("k", "v", nil, 0), api.ErrQuorum}, {list(), api.OK}} {
		alone.Call("t", as("t", x.c))
		if told := alone.Told(); len(told) != 1 || told[0].Answer.Err != x.want || alone.Open("t") != 0 || alone.Waits("t") {
			t.Error(x, told)
		}
	}
}

func TestReadsRepair(t *testing.T) {
	w := newWorld(t, 3)
	w.do("n1", "t", put("k", "v", nil, 0))
	o, _ := book.Get(w.nodes["n3"].Book("t"), "b/k")
	n := w.nodes["n1"]
	n.Reap("t", 1)
	empty := api.Msg{Kind: api.MsgHas, From: "n2", To: "n1", Err: api.ErrNone}
	op := n.Call("t", as("t", get("k")))
	n.Mail()
	empty.Op = op
	n.Receive("t", message.Bytes(empty))
	n.Receive("t", message.Bytes(api.Msg{Kind: api.MsgHas, From: "n3", To: "n1", Op: op, Obj: o}))
	if a, ok := w.answer("n1", "t", op); !ok || a.Err != api.OK || len(w.mail) != 0 || n.Open("t") != 1 {
		t.Error("a read goes on till all have answered", a, ok)
	}
	n.Receive("t", message.Bytes(api.Msg{Kind: api.MsgHas, From: "n1", To: "n1", Op: op, Obj: o}))
	mail := n.Mail()
	if len(mail) != 1 || n.Open("t") != 0 {
		t.Fatal(mail)
	}
	m, _ := message.Of(mail[0].Bytes)
	if m.Kind != api.MsgRepair || m.To != "n2" || m.From != "n1" || m.Place != "b/k" || !object.Same(m.Obj, o) {
		t.Error(m)
	}
	// Also when its time is over.
	op = n.Call("t", as("t", get("k")))
	n.Mail()
	empty.Op = op
	n.Receive("t", message.Bytes(empty))
	n.Receive("t", message.Bytes(api.Msg{Kind: api.MsgHas, From: "n3", To: "n1", Op: op, Obj: o}))
	for range 8 {
		n.Tick()
	}
	if mail := n.Mail(); len(mail) != 1 || n.Open("t") != 0 || len(n.Told()) != 1 {
		t.Error("not repaired", mail)
	}
	// A repair is taken by those who are to keep the place.
	repair := message.Bytes(api.Msg{Kind: api.MsgRepair, From: "n1", To: "n4", Place: "b/k", Obj: o})
	stranger, _ := New("n4", n.Entries())
	stranger.Receive("t", repair)
	if len(stranger.Book("t").Items) != 0 {
		t.Error("a stranger keeps what was repaired")
	}
	fresh, _ := New("n2", n.Entries())
	fresh.Receive("t", strings.Replace(repair, "n4", "n2", 1))
	if len(fresh.Book("t").Items) != 1 || !fresh.Waits("t") {
		t.Error("a keeper does not keep what was repaired")
	}
}

func TestWhatComesToOthersIsPassedOver(t *testing.T) {
	w := newWorld(t, 3)
	n := w.nodes["n1"]
	o, _ := object.New(nil, api.Sib{Dot: api.Dot{Node: "n2", N: 1}})
	write := message.Bytes(api.Msg{Kind: api.MsgWrite, From: "n2", To: "n1", Op: 5, Place: "b/k", Obj: o})
	for _, x := range [][2]string{{"t", message.Bytes(api.Msg{Kind: api.MsgWrite, From: "n1", To: "n2", Place: "b/k", Obj: o})}, {"t", write + "x"}, {"t", "none"}, {"", write}, {"T", write}, {"t", message.Bytes(api.Msg{Kind: api.MsgGossip, From: "n2", To: "n1", Entries: []api.Entry{entry("a", "x")}})}} {
		n.Receive(x[0], x[1])
	}
	if len(n.Book("t").Items) != 0 || len(n.Mail()) != 0 || registry.Get(n.Entries(), "a") != (api.Reg{}) || n.Waits("") {
		t.Error("taken all the same")
	}
	// Of a lane that is no tenant's: there is no room.
	n.Receive("v", write)
	mail := n.Mail()
	if len(mail) != 1 || mail[0].Lane != "v" {
		t.Fatal(mail)
	}
	if m, _ := message.Of(mail[0].Bytes); m.Kind != api.MsgWritten || m.Err != api.ErrAccess || m.Op != 5 || m.To != "n2" {
		t.Error(m)
	}
	n.Receive("t", strings.Replace(write, "b/k", "B/k", 1))
	if m, _ := message.Of(n.Mail()[0].Bytes); m.Err != api.ErrArg {
		t.Error(m)
	}
	n.Receive("t", write)
	if len(n.Mail()) != 0 || len(n.Book("t").Items) != 1 {
		t.Error("answered ahead of the flush")
	}
	n.Receive("t", write)
	n.Flush("t")
	if got := n.Mail(); len(got) != 2 {
		t.Error(got)
	}
	n.Receive("t", write)
	if got := n.Mail(); len(got) != 1 || n.Waits("t") {
		t.Error("what is sure already is answered at once", got)
	}
}

func TestCrashes(t *testing.T) {
	w := newWorld(t, 3)
	n := w.nodes["n1"]
	w.do("n1", "t", put("k", "v", nil, 0))
	sure := n.Book("t")
	n.Call("t", as("t", put("l", "w", nil, 0)))
	n.Call("t", as("t", get("k")))
	n.Crash(0)
	if n.Up() || n.Open("t") != 0 || n.Waits("t") || len(n.Mail())+len(n.Told()) != 0 || !sameBook(n.Book("t"), sure) || !sameBook(n.Sure("t"), sure) {
		t.Error("what was not sure is not lost", n.Book("t"))
	}
	for _, do := range []func(){n.Tick, func() { n.Flush("t") }, func() { n.Gossip("n2") }, func() { n.Exchange("t", "n2") }, func() { n.Hand("t") }, func() { n.Reap("t", 1) }, func() { n.Compact("t") }, func() { n.Crash(9) }} {
		do()
	}
	n.Receive("t", message.Bytes(api.Msg{Kind: api.MsgRead, From: "n2", To: "n1", Place: "b/k"}))
	if n.Now() != 0 || len(n.Mail()) != 0 || n.Admin(api.Admin{Kind: api.AdminClaim}) != api.ErrDown {
		t.Error("a node that is down does something")
	}
	n.Start()
	if !n.Up() || len(n.Mail()) != 0 {
		t.Error("down")
	}
	// Buckets have nothing left; a tick later there is something.
	n.Call("t", as("t", get("k")))
	if told := n.Told(); len(told) != 1 || told[0].Answer.Err != api.ErrRate {
		t.Error(told)
	}
	n.Tick()
	if a := w.do("n1", "t", put("l", "again", nil, 0)); a.Err != api.OK || a.Dot.N != 1 {
		t.Error("its number comes again", a)
	}
}

func TestABeginningOfWhatWasNotSure(t *testing.T) {
	for keep := range 80 {
		w := newWorld(t, 1, entry("prop/t/b/n", "1"))
		n := w.nodes["n1"]
		n.Call("t", as("t", put("k", "v", nil, 0)))
		unsure := n.lanes["t"].disk.Bytes()
		n.Crash(keep)
		want, good := book.Replay(unsure[:min(keep, len(unsure))])
		if !sameBook(n.Book("t"), want) || n.lanes["t"].disk.Bytes() != unsure[:good] || n.lanes["t"].disk.Sure() != good {
			t.Error(keep, n.Book("t"))
		}
	}
}

func TestAdmin(t *testing.T) {
	w := newWorld(t, 2)
	n := w.nodes["n1"]
	was := n.Entries()
	set := func(value string) api.Errno {
		return n.Admin(api.Admin{Kind: api.AdminSecret, Tenant: "v", Text: value})
	}
	if e := set(""); e != api.ErrArg || n.Waits("") {
		t.Error(e)
	}
	if e1, e2 := set("a"), set("b"); e1 != api.OK || e2 != api.OK || !registry.Same(n.Entries(), was) || !n.Waits("") {
		t.Error("what was begun is not known yet", e1, e2)
	}
	n.Flush("")
	if got := registry.Get(n.Entries(), "tenant/v/secret"); got != (api.Reg{N: 2, By: "n1", Value: "b"}) || n.Waits("") {
		t.Error(got)
	}
	set("c")
	n.Crash(0)
	if got := registry.Get(n.Entries(), "tenant/v/secret"); got.Value != "b" {
		t.Error(got)
	}
	n.Start()
	n.Flush("")
	if got := registry.Get(n.Entries(), "tenant/v/secret"); got.Value != "b" {
		t.Error("what was begun is not lost", got)
	}
	set("d")
	n.Crash(1 << 20)
	if got := registry.Get(n.Entries(), "tenant/v/secret"); got.Value != "d" || got.N != 3 {
		t.Error(got)
	}
	n.Start()
	// Entries of a claim stand in the order of their keys on the disk.
	n.Admin(api.Admin{Kind: api.AdminGone, Member: api.Member{Name: "n2"}})
	if e := n.Admin(api.Admin{Kind: api.AdminClaim}); e != api.OK {
		t.Error(e)
	}
	n.Crash(1 << 20)
	for _, owner := range n.owners {
		if owner != "n1" {
			t.Error(n.owners)
		}
	}
}

func TestGossip(t *testing.T) {
	w := newWorld(t, 2)
	n, m := w.nodes["n1"], w.nodes["n2"]
	n.Admin(api.Admin{Kind: api.AdminSecret, Tenant: "v", Text: "a"})
	n.Flush("")
	n.Gossip("N2")
	n.Gossip("")
	if len(n.Mail()) != 0 {
		t.Error("sent to nobody")
	}
	n.Gossip("n2")
	n.Gossip("n2")
	for w.deliver() {
	}
	if !registry.Same(n.Entries(), m.Entries()) || !m.Waits("") {
		t.Error("not told")
	}
	records, _ := frame.Scan(m.lanes[""].disk.Bytes())
	if len(records) != 2 {
		t.Fatal(len(records))
	}
	if news, e := regwire.Of(records[1]); e != api.OK || len(news) != 1 || news[0].Key != "tenant/v/secret" {
		t.Error(news, e)
	}
	m.Crash(0)
	if registry.Same(n.Entries(), m.Entries()) {
		t.Error("it was not sure")
	}
}

// missed are three nodes, of which one has nothing of what was written.
func missed(t *testing.T, keys ...string) *world {
	w := newWorld(t, 3)
	for _, key := range keys {
		w.do("n1", "t", put(key, "v", nil, 0))
	}
	fresh, _ := New("n3", w.nodes["n1"].Entries())
	w.nodes["n3"] = fresh
	return w
}

func TestExchange(t *testing.T) {
	for _, x := range [][2]string{{"n1", "n3"}, {"n3", "n1"}} {
		w := missed(t, "a", "b", "c")
		w.nodes[x[0]].Exchange("t", x[1])
		w.nodes[x[0]].Exchange("t", "")
		w.nodes[x[0]].Exchange("", x[1])
		w.gather()
		if len(w.mail) != 1 {
			t.Fatal(w.mail)
		}
		w.calm()
		got := w.nodes["n3"].Book("t")
		if len(got.Items) != 3 || !sameBook(api.Book{Items: got.Items}, api.Book{Items: w.nodes["n1"].Book("t").Items}) {
			t.Error(x, got)
		}
		w.nodes[x[0]].Exchange("t", x[1])
		w.deliver()
		if w.gather(); len(w.mail) != 0 {
			t.Error("something is told still")
		}
	}
}

func TestOnlyKeepersAreSentItems(t *testing.T) {
	w := newWorld(t, 3, entry("prop/t/b/n", "1"))
	n := w.nodes["n1"]
	for k := range 12 {
		w.do("n1", "t", put(fmt.Sprint(k), "v", nil, 0))
	}
	all := 0
	for _, name := range w.names {
		for _, x := range w.nodes[name].Book("t").Items {
			all++
			if !slices.Equal(prefer.Nodes(n.List("t", x.Place)), []string{name}) {
				t.Error("kept elsewhere", x.Place, name)
			}
		}
	}
	before := len(n.Book("t").Items)
	n.Exchange("t", "n2")
	w.nodes["n2"].Exchange("t", "n1")
	w.calm()
	if got := len(n.Book("t").Items); all != 12 || got != before {
		t.Error(all, before, got)
	}
	var places []string
	for _, name := range w.names[1:] {
		for _, x := range w.nodes[name].Book("t").Items {
			places = append(places, x.Place)
		}
	}
	w.nodes["n2"].Receive("t", message.Bytes(api.Msg{Kind: api.MsgWant, From: "n1", To: "n2", Texts: places}))
	if got := w.nodes["n2"].Mail(); len(got) != 0 {
		t.Error("items are sent to one who is not to keep them", got)
	}
	stray, _ := object.New(nil, api.Sib{Dot: api.Dot{Node: "n9", N: 1}})
	n.Receive("t", message.Bytes(api.Msg{Kind: api.MsgItems, From: "n2", To: "n1", Items: []api.Item{{Place: slices.Min(places), Obj: stray}}}))
	if got := len(n.Book("t").Items); got != before {
		t.Error("a stray item is taken", got)
	}
}

func TestHandOver(t *testing.T) {
	w := newWorld(t, 3)
	w.do("n1", "t", put("k", "v", nil, 0))
	o, _ := book.Get(w.nodes["n2"].Book("t"), "b/k")
	stranger, _ := New("n4", w.nodes["n1"].Entries())
	w.nodes["n4"], w.names = stranger, append(w.names, "n4")
	stranger.Receive("t", message.Bytes(api.Msg{Kind: api.MsgWrite, From: "n1", To: "n4", Place: "b/k", Obj: o}))
	w.calm()
	stranger.Hand("t")
	w.nodes["n1"].Hand("t")
	w.gather()
	if len(w.mail) != 3 {
		t.Fatal(w.mail)
	}
	for _, mail := range w.mail {
		if m, _ := message.Of(mail.Bytes); m.Kind != api.MsgHand || m.Op != 1<<20+1 || m.From != "n4" || !object.Same(m.Obj, o) {
			t.Error(m)
		}
	}
	lost := w.mail[2]
	w.mail = w.mail[:2]
	w.calm()
	if len(stranger.Book("t").Items) != 1 {
		t.Error("dropped, though one has not taken it")
	}
	w.mail = append(w.mail, lost)
	w.calm()
	if got := stranger.Book("t"); len(got.Items) != 0 || !sameBook(stranger.Sure("t"), got) {
		t.Error("not dropped", got)
	}
	// What has changed since it was handed over is not dropped.
	stranger.Receive("t", message.Bytes(api.Msg{Kind: api.MsgWrite, From: "n1", To: "n4", Place: "b/k", Obj: o}))
	stranger.Hand("t")
	more, _ := object.New(nil, api.Sib{Dot: api.Dot{Node: "n9", N: 1}})
	stranger.Receive("t", message.Bytes(api.Msg{Kind: api.MsgWrite, From: "n1", To: "n4", Place: "b/k", Obj: more}))
	w.calm()
	if len(stranger.Book("t").Items) != 1 {
		t.Error("dropped, though it has changed")
	}
}

func TestTheTimeHasAnEnd(t *testing.T) {
	n, _ := New("n1", tenants())
	n.time = api.MaxTicks - 1
	n.Tick()
	n.Tick()
	if n.Now() != api.MaxTicks {
		t.Error(n.Now())
	}
}

func TestLanesDoNotNoticeOneAnother(t *testing.T) {
	run := func(noise bool) (string, api.Book) {
		w := newWorld(t, 3, entry("tenant/u/rate", "1"), entry("tenant/u/burst", "1"))
		out := ""
		for k := range 12 {
			if noise {
				w.do(w.names[k%3], "u", put(fmt.Sprint(k%2), "other", nil, 0))
				w.nodes[w.names[k%3]].Exchange("u", "n2")
			}
			a := w.do(w.names[k%3], "t", []api.Call{put("k", fmt.Sprint(k), nil, k), get("k"), list(), remove("k", nil)}[k%4])
			out += fmt.Sprintln(a)
			if k%5 == 4 {
				w.nodes["n2"].Crash(3)
				w.nodes["n2"].Start()
			}
			for _, name := range w.names {
				w.nodes[name].Tick()
			}
		}
		return out, w.nodes["n1"].Book("t")
	}
	a, b := run(false)
	x, y := run(true)
	if a != x || !sameBook(b, y) {
		t.Error(a, x)
	}
}
