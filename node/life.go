package node

import (
	"pantler/admin"
	"pantler/api"
	"pantler/book"
	"pantler/frame"
	"pantler/objwire"
	"pantler/registry"
	"pantler/regwire"
	"pantler/replica"
	"pantler/tree"
	"slices"
	"strings"
)

// Flush lets all that a lane wrote be sure, and sends what waited for that.
func (n *Node) Flush(lane string) {
	if !n.Up() {
		return
	}
	if lane == root {
		n.learn(n.begun)
		n.begun = nil
		n.flush(n.open(root))
	} else if l := n.tenantLane(lane); l != nil {
		n.flush(l)
	}
}

func (n *Node) flush(l *lane) {
	l.disk.Sync()
	l.unsure = false
	for _, bytes := range l.waiting {
		n.post(l, bytes)
	}
	l.waiting = nil
}

// Tick lets a tick go by.
func (n *Node) Tick() {
	if !n.Up() {
		return
	}
	n.time = min(n.time+1, api.MaxTicks)
	for _, l := range n.inOrder() {
		for _, op := range l.timer.Due(n.time) {
			n.expire(l, op)
		}
	}
}

// inOrder are all lanes, by their names.
func (n *Node) inOrder() []*lane {
	var l []*lane
	for _, one := range n.lanes {
		l = append(l, one)
	}
	slices.SortFunc(l, func(a, b *lane) int { return strings.Compare(a.name, b.name) })
	return l
}

// Crash lets all be lost that is not sure, but so many bytes of each lane.
func (n *Node) Crash(keep int) {
	if !n.Up() {
		return
	}
	n.up = false
	n.begun, n.mail, n.told = nil, nil, nil
	for _, l := range n.inOrder() {
		l.disk.Crash(keep)
		l.bucket = api.Bucket{At: n.time}
		l.going = n.idle()
		if l.name == root {
			n.recall(l)
		} else {
			l.replay()
		}
	}
}

// replay lets the book be what the disk tells.
func (l *lane) replay() {
	bytes := l.disk.Bytes()
	b, good := book.Replay(bytes)
	l.book = b
	l.swap(bytes[:good])
}

// recall lets the entries be what the disk tells.
func (n *Node) recall(l *lane) {
	n.know(nil)
	records, _ := frame.Scan(l.disk.Bytes())
	for k, record := range records {
		told, e := regwire.Of(record)
		if e != api.OK {
			records = records[:k]
			break
		}
		n.learn(told)
	}
	l.swap(frame.All(records))
}

// Start lets the node begin again.
func (n *Node) Start() {
	if n == nil || n.up || n.lanes == nil {
		return
	}
	n.up = true
	n.starts++
	for _, l := range n.inOrder() {
		l.going = n.idle()
	}
}

// Gossip sends all entries to another node.
func (n *Node) Gossip(to string) {
	if n.Up() {
		n.send(n.open(root), to, api.Msg{Kind: api.MsgGossip, Entries: n.entries})
	}
}

// Exchange begins to compare what both have of a tenant.
func (n *Node) Exchange(tenant, to string) {
	if l := n.tenantLane(tenant); l != nil {
		n.send(l, to, api.Msg{Kind: api.MsgRoots, Texts: tree.Of(tree.Leaves(l.book.Items))})
	}
}

// Hand sends what others are to keep to them.
func (n *Node) Hand(tenant string) {
	l := n.tenantLane(tenant)
	if l == nil {
		return
	}
	for _, x := range l.book.Items {
		keepers := n.keepers(l, x.Place)
		if len(keepers) == 0 || slices.Contains(keepers, n.name) {
			continue
		}
		number := l.hand.Start(x.Place, objwire.Digest(x.Obj))
		for _, node := range keepers {
			n.send(l, node, api.Msg{Kind: api.MsgHand, Op: number, Place: x.Place, Obj: x.Obj})
		}
	}
}

// Reap takes values away that are gone, and of times before one.
func (n *Node) Reap(tenant string, before int) {
	l := n.tenantLane(tenant)
	if l == nil {
		return
	}
	for _, record := range replica.Reap(l.book, before) {
		l.write(record)
	}
}

// Compact writes a lane's log anew.
func (n *Node) Compact(tenant string) {
	l := n.tenantLane(tenant)
	if l == nil {
		return
	}
	n.flush(l)
	if bytes, e := book.Bytes(l.book); e == api.OK {
		l.swap(bytes)
	}
}

// Admin begins what an administrator does.
func (n *Node) Admin(a api.Admin) api.Errno {
	if !n.Up() {
		return api.ErrDown
	}
	known, e := registry.Join(n.entries, n.begun)
	if e != api.OK {
		return e
	}
	l, e := admin.Entries(known, n.name, a)
	if e != api.OK {
		return e
	}
	slices.SortFunc(l, func(a, b api.Entry) int { return strings.Compare(a.Key, b.Key) })
	begun, e := registry.Join(n.begun, l)
	if e != api.OK {
		return e
	}
	record, e := regwire.Bytes(l)
	if e != api.OK {
		return e
	}
	n.open(root).append(record)
	n.begun = begun
	return api.OK
}
