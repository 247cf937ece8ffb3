package replica

import (
	"fmt"
	"math/rand/v2"
	"pantler/api"
	"pantler/book"
	"pantler/dots"
	"pantler/object"
	"pantler/ring"
	"slices"
	"testing"
)

func sib(node string, n int, value string, gone bool, time int) api.Sib {
	return api.Sib{Dot: api.Dot{Node: node, N: n}, Value: value, Gone: gone, Time: time}
}

// obj is the object of one write that knew nothing.
func obj(node string, n int, value string) api.Obj {
	o, _ := object.New(nil, sib(node, n, value, false, 0))
	return o
}

func merged(a, b api.Obj) api.Obj {
	o, _ := object.Merge(a, b)
	return o
}

func kept() api.Book {
	return api.Book{Items: []api.Item{{Place: "b/a", Obj: obj("n1", 1, "x")}, {Place: "b/b", Obj: obj("n1", 2, "yy")}}}
}

func put(place string, o api.Obj) string {
	record, _ := book.PutRecord(place, o)
	return record
}

const plenty = 1 << 40

func TestWrite(t *testing.T) {
	b := kept()
	other := obj("n2", 1, "z")
	for k, x := range []struct {
		place string
		o     api.Obj
		want  string
	}{
		{"b/c", other, put("b/c", other)},
		{"b/a", other, put("b/a", merged(b.Items[0].Obj, other))},
		{"b/a", b.Items[0].Obj, ""},
		{"b/a", api.Obj{}, ""},
		{"b/c", api.Obj{}, put("b/c", api.Obj{})},
	} {
		if got, e := Write(b, plenty, x.place, x.o); e != api.OK || got != x.want {
			t.Errorf("%d: %q %v", k, got, e)
		}
	}
}

func TestWriteWithinALimit(t *testing.T) {
	b := kept()
	for k, x := range []struct {
		place string
		o     api.Obj
	}{{"b/c", obj("n2", 1, "zzz")}, {"b/a", obj("n2", 1, "zzz")}, {"c/abc", api.Obj{}}} {
		record, _ := Write(b, plenty, x.place, x.o)
		now, _ := book.Apply(b, record)
		size := book.Size(now)
		if got, e := Write(b, size, x.place, x.o); e != api.OK || got != record {
			t.Error(k, e)
		}
		for _, limit := range []int{size - 1, 0, -1} {
			if got, e := Write(b, limit, x.place, x.o); e != api.ErrQuota || got != "" {
				t.Error(k, limit, got, e)
			}
		}
	}
	// What is known already needs no room.
	if got, e := Write(b, 0, "b/a", b.Items[0].Obj); e != api.OK || got != "" {
		t.Error(got, e)
	}
	// What is written may be less than what was: only what is then counts.
	two := merged(obj("n1", 1, "long value"), obj("n2", 1, "another"))
	third, _ := object.New(two.Ctx, sib("n1", 2, "s", false, 0))
	was := api.Book{Items: []api.Item{{Place: "b/a", Obj: two}}}
	if got, e := Write(was, 3+object.Size(third), "b/a", third); e != api.OK || got != put("b/a", third) {
		t.Error(got, e)
	}
}

func TestWriteAndDropRefuse(t *testing.T) {
	var more []int
	for k := range api.MaxDots {
		more = append(more, 2*k+2)
	}
	full := api.Book{Items: []api.Item{{Place: "b/a", Obj: api.Obj{Ctx: []api.Seen{{Node: "a", More: more}}}}}}
	bad := api.Book{Items: []api.Item{{Place: "b"}}}
	o, odd := obj("b", 2, ""), api.Obj{Ctx: []api.Seen{{Node: "a"}}}
	for k, x := range []struct {
		b           api.Book
		place       string
		o           api.Obj
		write, drop api.Errno
	}{
		{bad, "b/a", o, api.ErrArg, api.ErrArg},
		{full, "b", o, api.ErrArg, api.ErrArg},
		{full, "B/a", o, api.ErrArg, api.ErrArg},
		{full, "b/a", odd, api.ErrArg, api.ErrArg},
		{full, "b/c", odd, api.ErrArg, api.ErrArg},
		{full, "b/a", o, api.ErrLong, api.ErrExist},
		{full, "b/c", o, api.ErrQuota, api.ErrNone},
	} {
		if got, e := Write(x.b, 10, x.place, x.o); e != x.write || got != "" {
			t.Error(k, got, e)
		}
		if got, e := Drop(x.b, x.place, x.o); e != x.drop || got != "" {
			t.Error(k, got, e)
		}
	}
}

func TestDrop(t *testing.T) {
	b := kept()
	drop, _ := book.DropRecord("b/a")
	for k, o := range []api.Obj{b.Items[0].Obj, merged(b.Items[0].Obj, obj("n2", 1, "z")), {Ctx: []api.Seen{{Node: "n1", Base: 1}}}} {
		if got, e := Drop(b, "b/a", o); e != api.OK || got != drop {
			t.Error(k, got, e)
		}
	}
	for k, o := range []api.Obj{{}, obj("n2", 1, "z"), obj("n1", 2, "x")} {
		if got, e := Drop(b, "b/a", o); e != api.ErrExist || got != "" {
			t.Error(k, got, e)
		}
	}
}

func TestReap(t *testing.T) {
	ctx := []api.Seen{{Node: "a", Base: 9}}
	o := api.Obj{Ctx: ctx, Sibs: []api.Sib{sib("a", 1, "", true, 4), sib("a", 2, "x", false, 1), sib("a", 3, "", true, 5), sib("a", 4, "", true, 6)}}
	only := api.Obj{Ctx: ctx, Sibs: []api.Sib{sib("a", 2, "", true, 0)}}
	b := api.Book{Items: []api.Item{{Place: "b/a", Obj: o}, {Place: "b/b", Obj: obj("n", 1, "lives")}, {Place: "b/c", Obj: only}}}
	for before, want := range map[int][]string{
		-1: nil,
		0:  nil,
		1:  {put("b/c", api.Obj{Ctx: ctx})},
		5:  {put("b/a", api.Obj{Ctx: ctx, Sibs: o.Sibs[1:]}), put("b/c", api.Obj{Ctx: ctx})},
		6:  {put("b/a", api.Obj{Ctx: ctx, Sibs: []api.Sib{o.Sibs[1], o.Sibs[3]}}), put("b/c", api.Obj{Ctx: ctx})},
		7:  {put("b/a", api.Obj{Ctx: ctx, Sibs: o.Sibs[1:2]}), put("b/c", api.Obj{Ctx: ctx})},
	} {
		if got := Reap(b, before); !slices.Equal(got, want) {
			t.Errorf("%d: %q", before, got)
		}
	}
	if got := Reap(api.Book{Items: []api.Item{b.Items[2], b.Items[0]}}, 9); len(got) != 0 {
		t.Error("of a book that may not be", got)
	}
	if len(b.Items[0].Obj.Sibs) != 4 || b.Items[0].Obj.Sibs[1] != o.Sibs[1] {
		t.Error("changed")
	}
}

func TestBucketAndPart(t *testing.T) {
	var b api.Book
	for k := range 60 {
		b.Items = append(b.Items, api.Item{Place: fmt.Sprintf("%c/%02d", 'a'+k/20, k), Obj: obj("n", 1+k, "")})
	}
	b.Items = append(b.Items, api.Item{Place: "a"}, api.Item{Place: "a/"}, api.Item{Place: "A/x"}, api.Item{Place: "a//"})
	got := Bucket(b, "a")
	if len(got) != 21 || got[20].Place != "a//" || got[0].Place != "a/00" {
		t.Error(len(got))
	}
	if len(Bucket(b, "A"))+len(Bucket(b, ""))+len(Bucket(b, "x")) != 0 {
		t.Error("items of no bucket")
	}
	got[0].Obj.Ctx[0].Base, got[0].Place = 77, "changed"
	if b.Items[0].Obj.Ctx[0].Base == 77 || b.Items[0].Place == "changed" {
		t.Error("changed")
	}
	sum := 0
	for part := range 16 {
		for _, x := range Part(b, "t", part, 16) {
			if ring.Part("t", x.Place, 16) != part {
				t.Error(x.Place, part)
			}
			sum++
		}
	}
	if sum != len(b.Items) || len(Part(b, "t", 16, 16))+len(Part(b, "t", -1, 16)) != 0 {
		t.Error(sum)
	}
	if len(Part(b, "t", 0, 0)) != len(b.Items) || len(Part(b, "t", 1, 0)) != 0 {
		t.Error("without partitions all are of the first")
	}
}

func TestWhatIsWrittenIsCovered(t *testing.T) {
	r := rand.New(rand.NewPCG(31, 32))
	const limit = 500
	var b api.Book
	for k := range 800 {
		place := fmt.Sprint("b/", r.IntN(5))
		was, _ := book.Get(b, place)
		gone := r.IntN(2)
		o, e := object.New(was.Ctx, sib(fmt.Sprint("n", r.IntN(3)), k+1, "v"[gone:], gone == 1, r.IntN(9)))
		if e != api.OK {
			t.Fatal(e)
		}
		record, e := Write(b, limit, place, o)
		if e == api.OK {
			b, _ = book.Apply(b, record)
			if now, _ := book.Get(b, place); !object.Covers(now, o) {
				t.Fatal("not covered")
			}
		} else if e != api.ErrQuota {
			t.Fatal(e)
		}
		if book.Size(b) > limit || book.Check(b) != api.OK {
			t.Fatal("above its limit", book.Size(b))
		}
		for _, record := range Reap(b, r.IntN(9)) {
			next, _ := book.Apply(b, record)
			for m, x := range next.Items {
				if !dots.Same(x.Obj.Ctx, b.Items[m].Obj.Ctx) {
					t.Fatal("what is known is not known any more")
				}
			}
			b = next
		}
		if r.IntN(20) == 0 {
			b = api.Book{}
		}
	}
}
