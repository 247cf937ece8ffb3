// Package fresh makes copies in memory of their own, so that no answer shares any with what was handed in.
package fresh

import (
	"pantler/api"
	"slices"
)

// Ctx is the same context.
func Ctx(c []api.Seen) []api.Seen {
	return each(c, func(s api.Seen) api.Seen {
		s.More = slices.Clone(s.More)
		return s
	})
}

// Obj is the same object.
func Obj(o api.Obj) api.Obj { return api.Obj{Ctx: Ctx(o.Ctx), Sibs: slices.Clone(o.Sibs)} }

// Items are the same items.
func Items(l []api.Item) []api.Item {
	return each(l, func(x api.Item) api.Item { return api.Item{Place: x.Place, Obj: Obj(x.Obj)} })
}

// Book is the same book.
func Book(b api.Book) api.Book {
	return api.Book{Items: Items(b.Items), Mints: slices.Clone(b.Mints)}
}

// each is a list of copies of parts, as one is made.
func each[T any](l []T, one func(x T) T) []T {
	all := slices.Clone(l)
	for k, x := range all {
		all[k] = one(x)
	}
	return all
}

// Call is the same call.
func Call(c api.Call) api.Call {
	c.Ctx = Ctx(c.Ctx)
	return c
}

// Answer is the same answer.
func Answer(a api.Answer) api.Answer {
	return api.Answer{Err: a.Err, Sibs: slices.Clone(a.Sibs), Ctx: Ctx(a.Ctx), Keys: slices.Clone(a.Keys), Dot: a.Dot}
}

// Deeds are the same deeds.
func Deeds(l []api.Deed) []api.Deed {
	return each(l, func(d api.Deed) api.Deed {
		d.Call, d.Answer = Call(d.Call), Answer(d.Answer)
		return d
	})
}

// Events are the same events.
func Events(l []api.Event) []api.Event {
	return each(l, func(e api.Event) api.Event {
		e.Call = Call(e.Call)
		return e
	})
}
