package text

import (
	"pantler/api"
	"pantler/name"
	"strings"
)

// reader reads words, one behind the other.
type reader struct {
	words []string
	bad   bool
}

// word is the next word; nothing, which is no word, if there is none.
func (r *reader) word() string {
	if len(r.words) == 0 {
		return ""
	}
	w := r.words[0]
	r.words = r.words[1:]
	return w
}

// next is what the next word is read as.
func next[T any](r *reader, read func(w string) (T, bool)) T {
	x, ok := read(r.word())
	r.bad = r.bad || !ok
	return x
}

func (r *reader) text() string { return next(r, Read) }

func (r *reader) number() int { return next(r, name.Num) }

func (r *reader) kind() int { return next(r, readKind) }

func (r *reader) state() bool { return next(r, readState) }

func (r *reader) ctx() []api.Seen { return next(r, readCtx) }

// readKind is the kind of events of a name.
func readKind(w string) (int, bool) {
	for n, known := range kinds {
		if n > 0 && known == w {
			return n, true
		}
	}
	n, ok := name.Num(strings.TrimPrefix(w, other))
	return n, ok && kind(n) == w
}

func readState(w string) (bool, bool) { return w == up, w == up || w == down }

// readCtx is the context of a word.
func readCtx(w string) ([]api.Seen, bool) {
	if w == nothing {
		return nil, true
	}
	var c []api.Seen
	for _, part := range strings.Split(w, ",") {
		node, numbers, _ := strings.Cut(part, ":")
		r := &reader{words: append([]string{node}, strings.Split(numbers, "+")...)}
		s := api.Seen{Node: r.text(), Base: r.number()}
		for len(r.words) > 0 {
			s.More = append(s.More, r.number())
		}
		if r.bad {
			return nil, false
		}
		c = append(c, s)
	}
	return c, true
}

// fill reads what is next, as one is read, into all of a row.
func fill[T any](one func() T, row ...*T) {
	for _, x := range row {
		*x = one()
	}
}

func (r *reader) event() api.Event {
	e := api.Event{Kind: r.kind()}
	fill(r.text, &e.Node, &e.To, &e.Lane)
	e.N = r.number()
	switch e.Kind {
	case api.EvCall:
		e.Call = r.call()
	case api.EvAdmin:
		e.Admin = r.admin()
	}
	return e
}

func (r *reader) call() api.Call {
	c := api.Call{Kind: r.number()}
	fill(r.text, &c.Token, &c.Bucket, &c.Key, &c.Value)
	c.Ctx = r.ctx()
	c.Time = r.number()
	return c
}

func (r *reader) admin() api.Admin {
	a := api.Admin{Kind: r.number()}
	fill(r.text, &a.Tenant, &a.Bucket, &a.Field, &a.Text)
	a.N = r.number()
	fill(r.text, &a.Member.Name, &a.Member.Rack, &a.Member.Zone)
	a.Member.Up = r.state()
	return a
}

// Parse is the event of a line.
func Parse(s string) (api.Event, api.Errno) {
	r := &reader{words: strings.Split(s, " ")}
	e := r.event()
	if r.bad || len(r.words) > 0 {
		return api.Event{}, api.ErrBad
	}
	return e, api.OK
}
