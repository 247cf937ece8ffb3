package fresh

import (
	"pantler/api"
	"reflect"
	"testing"
)

// full is a book with something in each list.
func full() api.Book {
	o := api.Obj{Ctx: ctx(), Sibs: []api.Sib{{Dot: api.Dot{Node: "a", N: 3}, Value: "x", Time: 7}}}
	return api.Book{Items: []api.Item{{Place: "b/k", Obj: o}}, Mints: []api.Mint{{Place: "b/k", N: 3}}}
}

func ctx() []api.Seen {
	return []api.Seen{{Node: "a", Base: 1, More: []int{3, 5}}, {Node: "b", Base: 2}}
}

func call() api.Call {
	return api.Call{Kind: 2, Token: "t", Bucket: "b", Key: "k", Value: "v", Ctx: ctx(), Time: 3}
}

func deeds() []api.Deed {
	a := api.Answer{Err: 5, Sibs: []api.Sib{{Value: "x"}}, Ctx: ctx(), Keys: []string{"k"}, Dot: api.Dot{Node: "a", N: 1}}
	return []api.Deed{{Node: "n", Lane: "t", Op: 1, Begin: 2, End: 3, Tick: 4, Call: call(), Done: true, Answer: a}}
}

func events() []api.Event {
	return []api.Event{{Kind: 1, Node: "n", To: "m", Lane: "t", N: 5, Call: call(), Admin: api.Admin{Kind: 2, Text: "x"}}}
}

func TestCopiesAreTheSame(t *testing.T) {
	if !reflect.DeepEqual(Book(full()), full()) || !reflect.DeepEqual(Deeds(deeds()), deeds()) || !reflect.DeepEqual(Events(events()), events()) {
		t.Error("other copies")
	}
	if got := Book(api.Book{}); len(got.Items)+len(got.Mints) != 0 || len(Ctx(nil))+len(Deeds(nil))+len(Events(nil)) != 0 {
		t.Error(got)
	}
}

func TestCopiesHaveMemoryOfTheirOwn(t *testing.T) {
	b := full()
	c := Book(b)
	c.Mints[0].N = 9
	c.Items[0].Obj.Sibs[0].Value = "y"
	c.Items[0].Obj.Ctx[0].More[1] = 9
	c.Items[0].Obj.Ctx[1].Base = 9
	c.Items[0].Place = "c/l"
	if !reflect.DeepEqual(b, full()) {
		t.Error(b)
	}
	d := deeds()
	e := Deeds(d)
	e[0].Call.Ctx[0].More[0], e[0].Answer.Ctx[0].More[0] = 9, 9
	e[0].Answer.Sibs[0].Value, e[0].Answer.Keys[0], e[0].Node = "y", "l", "m"
	if !reflect.DeepEqual(d, deeds()) {
		t.Error(d)
	}
	f := events()
	g := Events(f)
	g[0].Call.Ctx[0].More[0], g[0].Node = 9, "x"
	if !reflect.DeepEqual(f, events()) {
		t.Error(f)
	}
}
