package node

import (
	"pantler/api"
	"pantler/book"
	"pantler/compare"
	"pantler/message"
	"pantler/name"
	"pantler/objwire"
	"pantler/registry"
	"pantler/regwire"
	"pantler/replica"
	"pantler/tree"
	"slices"
)

// Receive takes a message of a lane.
func (n *Node) Receive(lane, bytes string) {
	if !n.Up() {
		return
	}
	m, e := message.Of(bytes)
	if e != api.OK || m.To != n.name {
		return
	}
	if lane == root {
		if m.Kind == api.MsgGossip {
			n.hear(m.Entries)
		}
		return
	}
	if l := n.tenantLane(lane); l != nil {
		n.take(l, m)
	}
}

// hear joins entries that another node told.
func (n *Node) hear(l []api.Entry) {
	news := registry.News(l, n.entries)
	all, e := registry.Join(n.entries, l)
	if e != api.OK || registry.Same(all, n.entries) {
		return
	}
	record, e := regwire.Bytes(news)
	if e != api.OK {
		return
	}
	n.know(all)
	n.open(root).append(record)
}

// take takes a message of a tenant's lane.
func (n *Node) take(l *lane, m api.Msg) {
	switch m.Kind {
	case api.MsgWrite:
		n.takeWrite(l, m)
	case api.MsgWritten, api.MsgHas, api.MsgKeys:
		n.takeAnswer(l, m)
	case api.MsgRead:
		n.takeRead(l, m)
	case api.MsgList:
		n.send(l, m.From, api.Msg{Kind: api.MsgKeys, Op: m.Op, Items: replica.Bucket(l.book, m.Place)})
	case api.MsgRepair:
		n.mergeKept(l, m.Place, m.Obj)
	case api.MsgRoots:
		n.takeRoots(l, m)
	case api.MsgLeaves:
		n.takeLeaves(l, m)
	case api.MsgWant:
		n.sendItems(l, m.From, m.Texts)
	case api.MsgItems:
		for _, x := range m.Items {
			n.mergeKept(l, x.Place, x.Obj)
		}
	case api.MsgHand:
		n.takeHand(l, m)
	case api.MsgTaken:
		n.takeTaken(l, m)
	}
}

// mergeKept merges an object into a place that this node is to keep.
func (n *Node) mergeKept(l *lane, place string, o api.Obj) {
	if n.keeps(l, place, n.name) {
		n.merge(l, place, o)
	}
}

func (n *Node) takeWrite(l *lane, m api.Msg) {
	e := n.merge(l, m.Place, m.Obj)
	answer := api.Msg{Kind: api.MsgWritten, Op: m.Op, Err: e}
	if e == api.OK {
		n.sendSure(l, m.From, answer)
	} else {
		n.send(l, m.From, answer)
	}
}

func (n *Node) takeRead(l *lane, m api.Msg) {
	answer := api.Msg{Kind: api.MsgHas, Op: m.Op, Err: api.ErrNone}
	if o, has := book.Get(l.book, m.Place); has {
		answer.Err, answer.Obj = api.OK, o
	}
	n.send(l, m.From, answer)
}

// takeAnswer lets a call that goes on take an answer of its kind.
func (n *Node) takeAnswer(l *lane, m api.Msg) {
	k := l.calls[m.Op]
	if k == nil {
		return
	}
	switch {
	case m.Kind == api.MsgWritten && m.Err == api.OK:
		k.write.Done(m.From)
	case m.Kind == api.MsgWritten:
		k.write.Refused(m.From, m.Err)
	case m.Kind == api.MsgHas && m.Err == api.OK:
		k.read.Found(m.From, m.Obj)
	case m.Kind == api.MsgHas && m.Err == api.ErrNone:
		k.read.Missing(m.From)
	case m.Kind == api.MsgHas:
		k.read.Refused(m.From)
	case m.Err == api.OK:
		k.list.Has(m.From, m.Items)
	default:
		k.list.Refused(m.From)
	}
	n.settle(l, m.Op)
}

func (n *Node) takeRoots(l *lane, m api.Msg) {
	leaves := tree.Leaves(l.book.Items)
	unlike := tree.Unlike(tree.Of(leaves), m.Texts)
	if len(unlike) == 0 {
		return
	}
	var numbers []string
	for _, k := range unlike {
		numbers = append(numbers, name.Dec(k))
	}
	n.send(l, m.From, api.Msg{Kind: api.MsgLeaves, Texts: numbers, Leaves: tree.In(leaves, unlike)})
}

func (n *Node) takeLeaves(l *lane, m api.Msg) {
	var segments []int
	for _, text := range m.Texts {
		if k, ok := name.Num(text); ok {
			segments = append(segments, k)
		}
	}
	mine := tree.In(tree.Leaves(l.book.Items), segments)
	n.sendItems(l, m.From, compare.Send(mine, m.Leaves))
	wanted := slices.DeleteFunc(compare.Want(mine, m.Leaves), func(place string) bool { return !n.keeps(l, place, n.name) })
	if len(wanted) > 0 {
		n.send(l, m.From, api.Msg{Kind: api.MsgWant, Texts: wanted})
	}
}

// sendItems sends the items of some places that a node is to keep, if there are some.
func (n *Node) sendItems(l *lane, to string, places []string) {
	items := slices.DeleteFunc(compare.Items(l.book.Items, places), func(x api.Item) bool { return !n.keeps(l, x.Place, to) })
	if len(items) > 0 {
		n.send(l, to, api.Msg{Kind: api.MsgItems, Items: items})
	}
}

func (n *Node) takeHand(l *lane, m api.Msg) {
	if !n.keeps(l, m.Place, n.name) || n.merge(l, m.Place, m.Obj) != api.OK {
		return
	}
	l.hand.Drop(m.Place)
	n.sendSure(l, m.From, api.Msg{Kind: api.MsgTaken, Op: m.Op, Place: m.Place})
}

func (n *Node) takeTaken(l *lane, m api.Msg) {
	l.hand.Taken(m.Op, m.From)
	o, has := book.Get(l.book, m.Place)
	if !has || n.keeps(l, m.Place, n.name) || !l.hand.Ready(m.Place, objwire.Digest(o), n.keepers(l, m.Place)) {
		return
	}
	if record, e := book.DropRecord(m.Place); e == api.OK {
		l.write(record)
		l.hand.Drop(m.Place)
	}
}
