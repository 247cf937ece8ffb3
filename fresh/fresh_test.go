package fresh

import (
	"pantler/api"
	"reflect"
	"testing"
)

// full is a book with something in each list.
func full() api.Book {
	o := api.Obj{Ctx: []api.Seen{{Node: "a", Base: 1, More: []int{3, 5}}, {Node: "b", Base: 2}}, Sibs: []api.Sib{{Dot: api.Dot{Node: "a", N: 3}, Value: "x", Time: 7}}}
	return api.Book{Items: []api.Item{{Place: "b/k", Obj: o}}, Mints: []api.Mint{{Place: "b/k", N: 3}}}
}

func TestCopiesAreTheSame(t *testing.T) {
	if !reflect.DeepEqual(Book(full()), full()) {
		t.Error(Book(full()))
	}
	if got := Book(api.Book{}); len(got.Items)+len(got.Mints) != 0 || len(Ctx(nil)) != 0 {
		t.Error(got)
	}
}

func TestCopiesHaveMemoryOfTheirOwn(t *testing.T) {
	b := full()
	c := Book(b)
	c.Mints[0].N = 9
	c.Items[0].Obj.Sibs[0].Value = "y"
	c.Items[0].Obj.Ctx[0].More[1] = 9
	c.Items[0].Obj.Ctx[1].Base = 9
	c.Items[0].Place = "c/l"
	if !reflect.DeepEqual(b, full()) {
		t.Error(b)
	}
}
