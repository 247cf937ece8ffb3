package node

import (
	"pantler/api"
	"pantler/book"
	"pantler/front"
	"pantler/lister"
	"pantler/name"
	"pantler/object"
	"pantler/prefer"
	"pantler/props"
	"pantler/rate"
	"pantler/reader"
	"pantler/tenant"
	"pantler/topo"
	"pantler/writer"
)

// call is a call that goes on: who takes answers to it (those of another kind are nil, and take none), what they came to, what it is answered then, whether it goes on behind that, and how it ends.
type call struct {
	read     *reader.Reader
	write    *writer.Writer
	list     *lister.Lister
	state    func() int
	answer   func() api.Answer
	open     func() bool
	end      func()
	answered bool
}

// Call begins a tenant's call; its number.
func (n *Node) Call(tenant string, c api.Call) int {
	l := n.tenantLane(tenant)
	if l == nil {
		return 0
	}
	l.made++
	op := n.first() + l.made
	e := n.admit(l, c)
	if e == api.OK {
		e = n.begin(l, op, c)
	}
	if e != api.OK {
		n.tell(l, op, api.Answer{Err: e})
	}
	return op
}

// admit tells why a call may not go on.
func (n *Node) admit(l *lane, c api.Call) api.Errno {
	if e := front.Check(n.entries, l.name, c, n.time); e != api.OK {
		return e
	}
	t, _ := tenant.Of(n.entries, l.name)
	if len(l.calls) >= t.Queue {
		return api.ErrBusy
	}
	left, ok := rate.Take(l.bucket, n.time, t.Rate, t.Burst)
	if !ok {
		return api.ErrRate
	}
	l.bucket = left
	return api.OK
}

// begin begins a call, or tells why it ends at once.
func (n *Node) begin(l *lane, op int, c api.Call) api.Errno {
	switch c.Kind {
	case api.CallGet:
		n.beginRead(l, op, c)
	case api.CallList:
		n.beginList(l, op, c)
	default:
		return n.beginWrite(l, op, c)
	}
	return api.OK
}

// target are a call's place, its bucket's properties, and the place's list.
func (n *Node) target(l *lane, c api.Call) (string, api.Props, []api.Choice) {
	place := name.Join(c.Bucket, c.Key)
	return place, props.Of(n.entries, l.name, c.Bucket), n.List(l.name, place)
}

// reading is a read of a place.
type reading struct {
	*reader.Reader
	place string
	send  func(to string, m api.Msg)
}

func (r reading) answer() api.Answer {
	switch r.State() {
	case api.Met:
		return api.Answer{Sibs: r.Told(), Ctx: r.Whole().Ctx}
	case api.Absent:
		return api.Answer{Err: api.ErrNone, Ctx: r.Whole().Ctx}
	}
	return api.Answer{Err: api.ErrQuorum}
}

// repair sends what all answers came to to those that have less.
func (r reading) repair() {
	for _, node := range r.Stale() {
		r.send(node, api.Msg{Kind: api.MsgRepair, Place: r.place, Obj: r.Whole()})
	}
}

func (n *Node) beginRead(l *lane, op int, c api.Call) {
	place, p, list := n.target(l, c)
	send := func(to string, m api.Msg) { n.send(l, to, m) }
	r := reading{reader.New(p, list), place, send}
	for _, node := range prefer.Nodes(list) {
		send(node, api.Msg{Kind: api.MsgRead, Op: op, Place: place})
	}
	n.start(l, op, &call{read: r.Reader, state: r.State, answer: r.answer, open: r.Open, end: r.repair})
}

// writing is a write of an object by a dot.
type writing struct {
	*writer.Writer
	dot api.Dot
	ctx []api.Seen
}

func (w writing) answer() api.Answer {
	if w.State() == api.Met {
		return api.Answer{Dot: w.dot, Ctx: w.ctx}
	}
	return api.Answer{Err: w.Err()}
}

func (n *Node) beginWrite(l *lane, op int, c api.Call) api.Errno {
	place, p, list := n.target(l, c)
	w := writer.New(p, list)
	if w.State() == api.Unmet {
		return w.Err()
	}
	dot := api.Dot{Node: n.name, N: book.Next(l.book, place)}
	o, e := object.New(c.Ctx, api.Sib{Dot: dot, Value: c.Value, Gone: c.Kind == api.CallDelete, Time: c.Time})
	if e != api.OK {
		return e
	}
	record, e := book.MintRecord(place, dot.N)
	if e != api.OK {
		return e
	}
	l.write(record)
	for _, node := range prefer.Nodes(list) {
		n.sendSure(l, node, api.Msg{Kind: api.MsgWrite, Op: op, Place: place, Obj: o})
	}
	n.start(l, op, &call{write: w, state: w.State, answer: writing{w, dot, o.Ctx}.answer, open: over, end: nothing})
	return api.OK
}

// listing is a list of keys.
type listing struct{ *lister.Lister }

func (g listing) answer() api.Answer {
	if g.State() == api.Met {
		return api.Answer{Keys: g.Keys()}
	}
	return api.Answer{Err: api.ErrQuorum}
}

func (n *Node) beginList(l *lane, op int, c api.Call) {
	var nodes []string
	for _, m := range topo.Up(n.members) {
		nodes = append(nodes, m.Name)
		n.send(l, m.Name, api.Msg{Kind: api.MsgList, Op: op, Place: c.Bucket})
	}
	g := listing{lister.New(c.Bucket, nodes)}
	n.start(l, op, &call{list: g.Lister, state: g.State, answer: g.answer, open: over, end: nothing})
}

// over is of calls that do not go on behind their answer, and nothing of those that end without more.
func over() bool { return false }

func nothing() {}

// start lets a call go on.
func (n *Node) start(l *lane, op int, k *call) {
	l.calls[op] = k
	l.timer.Set(op, n.time+api.Patience)
	n.settle(l, op)
}

// settle answers a call, and ends it, if its time has come for that.
func (n *Node) settle(l *lane, op int) {
	k := l.calls[op]
	if k == nil {
		return
	}
	if !k.answered && k.state() != api.Waits {
		k.answered = true
		n.tell(l, op, k.answer())
	}
	if k.answered && !k.open() {
		n.end(l, op)
	}
}

// end ends a call.
func (n *Node) end(l *lane, op int) {
	k := l.calls[op]
	delete(l.calls, op)
	l.timer.Drop(op)
	k.end()
}

// expire ends a call whose time has come.
func (n *Node) expire(l *lane, op int) {
	if !l.calls[op].answered {
		n.tell(l, op, api.Answer{Err: api.ErrTime})
	}
	n.end(l, op)
}

func (n *Node) tell(l *lane, op int, a api.Answer) {
	n.told = append(n.told, api.Told{Lane: l.name, Op: op, Answer: a})
}
