package node

import (
	"pantler/api"
	"pantler/book"
	"pantler/disk"
	"pantler/frame"
	"pantler/hand"
	"pantler/message"
	"pantler/name"
	"pantler/rate"
	"pantler/replica"
	"pantler/tenant"
	"pantler/timer"
)

// burst is that of a lane whose name is no tenant's.
const burst = 16

// lane is what a node has of a tenant, or of the entries.
type lane struct {
	name   string
	disk   *disk.Disk
	unsure bool
	book   api.Book
	bucket api.Bucket
	going
}

// going is what a lane has as long as the node is up: calls by their numbers, and how many were made, when they end, what is handed over, and what waits.
type going struct {
	calls   map[int]*call
	made    int
	timer   *timer.Timer
	hand    *hand.Hand
	waiting []string
}

// open is the lane of a name, which is there from its first use on.
func (n *Node) open(lanes string) *lane {
	if l := n.lanes[lanes]; l != nil {
		return l
	}
	most := burst
	if t, ok := tenant.Of(n.entries, lanes); ok {
		most = t.Burst
	}
	l := &lane{name: lanes, disk: disk.New(), bucket: rate.Full(n.time, most), going: n.idle()}
	n.lanes[lanes] = l
	return l
}

// idle is where nothing goes on, since the node was started last.
func (n *Node) idle() going {
	return going{calls: map[int]*call{}, timer: timer.New(), hand: hand.New(n.first())}
}

// append lays a record on a lane's disk.
func (l *lane) append(record string) {
	l.disk.Append(frame.Put(record))
	l.unsure = true
}

// write writes a record of a book.
func (l *lane) write(record string) {
	l.append(record)
	if b, e := book.Apply(l.book, record); e == api.OK {
		l.book = b
	}
}

// swap lets other bytes be the disk's, for sure.
func (l *lane) swap(bytes string) {
	l.disk.Swap(bytes)
	l.unsure = false
}

// send sends a message to a node.
func (n *Node) send(l *lane, to string, m api.Msg) {
	if name.Is(to) {
		n.post(l, n.sealed(to, m))
	}
}

// sendSure sends a message to a node behind the next flush, if there is something that is not sure.
func (n *Node) sendSure(l *lane, to string, m api.Msg) {
	if !l.unsure {
		n.send(l, to, m)
	} else if name.Is(to) {
		l.waiting = append(l.waiting, n.sealed(to, m))
	}
}

func (n *Node) sealed(to string, m api.Msg) string {
	m.From, m.To = n.name, to
	return message.Bytes(m)
}

func (n *Node) post(l *lane, bytes string) {
	n.mail = append(n.mail, api.Mail{Lane: l.name, Bytes: bytes})
}

// merge merges an object into a place.
func (n *Node) merge(l *lane, place string, o api.Obj) api.Errno {
	t, ok := tenant.Of(n.entries, l.name)
	if !ok {
		return api.ErrAccess
	}
	record, e := replica.Write(l.book, t.Bytes, place, o)
	if e == api.OK && record != "" {
		l.write(record)
	}
	return e
}
