package book

import (
	"fmt"
	"math"
	"math/rand/v2"
	"pantler/api"
	"pantler/frame"
	"pantler/object"
	"pantler/objwire"
	"pantler/octet"
	"reflect"
	"strings"
	"testing"
)

// obj is an object of one value.
func obj(node string, n int, value string) api.Obj {
	o, _ := object.New(nil, api.Sib{Dot: api.Dot{Node: node, N: n}, Value: value, Time: n})
	return o
}

// same tells whether two books are the same.
func same(a, b api.Book) bool {
	return fmt.Sprint(a) == fmt.Sprint(b) && len(a.Items) == len(b.Items) && len(a.Mints) == len(b.Mints)
}

func empty(b api.Book) bool { return len(b.Items)+len(b.Mints) == 0 }

// full is a book with items and mints.
func full() api.Book {
	return api.Book{
		Items: []api.Item{{Place: "b/a", Obj: obj("n1", 1, "x")}, {Place: "b/b", Obj: api.Obj{}}, {Place: "c/\x00", Obj: obj("n2", 5, "y")}},
		Mints: []api.Mint{{Place: "a/a", N: 1}, {Place: "b/a", N: api.MaxDot}},
	}
}

// bad are books that may not be.
func bad() []api.Book {
	return []api.Book{
		{Items: []api.Item{{Place: "b"}}},
		{Items: []api.Item{{Place: "B/a"}}},
		{Items: []api.Item{{Place: "b/"}}},
		{Items: []api.Item{{Place: "b/b"}, {Place: "b/a"}}},
		{Items: []api.Item{{Place: "b/a"}, {Place: "b/a"}}},
		{Items: []api.Item{{Place: "b/a", Obj: api.Obj{Ctx: []api.Seen{{Node: "a"}}}}}},
		{Mints: []api.Mint{{Place: "", N: 1}}},
		{Mints: []api.Mint{{Place: "b/b", N: 1}, {Place: "b/a", N: 1}}},
		{Mints: []api.Mint{{Place: "b/a", N: 1}, {Place: "b/a", N: 2}}},
		{Mints: []api.Mint{{Place: "b/a", N: 0}}},
		{Mints: []api.Mint{{Place: "b/a", N: -1}}},
		{Mints: []api.Mint{{Place: "b/a", N: api.MaxDot + 1}}},
	}
}

// must are records that could be written.
func must(t *testing.T) func(record string, e api.Errno) string {
	return func(record string, e api.Errno) string {
		t.Helper()
		if e != api.OK {
			t.Fatal(e)
		}
		return record
	}
}

func TestRecords(t *testing.T) {
	o := obj("n1", 2, "v")
	var w octet.Writer
	objwire.Obj(&w, o)
	if got, e := PutRecord("b/k", o); e != api.OK || got != "\x01\x00\x00\x00\x03b/k"+w.Bytes() {
		t.Errorf("%q %v", got, e)
	}
	if got, e := DropRecord("b//"); e != api.OK || got != "\x02\x00\x00\x00\x03b//" {
		t.Errorf("%q %v", got, e)
	}
	if got, e := MintRecord("b/k", 258); e != api.OK || got != "\x03\x00\x00\x00\x03b/k\x00\x00\x00\x00\x00\x00\x01\x02" {
		t.Errorf("%q %v", got, e)
	}
	for _, place := range []string{"", "b", "B/k", "b/", "/k", "b/" + strings.Repeat("k", api.MaxKey+1)} {
		if got, e := PutRecord(place, o); e != api.ErrArg || got != "" {
			t.Error(place, got, e)
		}
		if got, e := DropRecord(place); e != api.ErrArg || got != "" {
			t.Error(place, got, e)
		}
		if got, e := MintRecord(place, 1); e != api.ErrArg || got != "" {
			t.Error(place, got, e)
		}
	}
	if got, e := PutRecord("b/k", api.Obj{Ctx: []api.Seen{{Node: "a"}}}); e != api.ErrArg || got != "" {
		t.Error(got, e)
	}
	for n, want := range map[int]api.Errno{0: api.ErrArg, -1: api.ErrArg, 1: api.OK, api.MaxDot: api.OK, api.MaxDot + 1: api.ErrArg, math.MinInt: api.ErrArg, math.MaxInt: api.ErrArg} {
		if got, e := MintRecord("b/k", n); e != want || (got == "") != (e != api.OK) {
			t.Error(n, got, e)
		}
	}
}

func TestCheck(t *testing.T) {
	for _, b := range []api.Book{{}, full(), {Mints: []api.Mint{{Place: "a/a", N: 5}}}} {
		if e := Check(b); e != api.OK {
			t.Error(b, e)
		}
	}
	drop := must(t)(DropRecord("x/x"))
	for k, b := range bad() {
		if e := Check(b); e != api.ErrArg {
			t.Error(k, e)
		}
		if got, e := Bytes(b); e != api.ErrArg || got != "" {
			t.Error(k, got, e)
		}
		for _, record := range []string{drop, "none"} {
			if got, e := Apply(b, record); e != api.ErrArg || !empty(got) {
				t.Error(k, got, e)
			}
		}
	}
}

func TestGetNextAndSize(t *testing.T) {
	b := full()
	for place, want := range map[string]int{"b/a": 1 << 53, "a/a": 1, "b/b": 0, "": 0} {
		if got := Next(b, place); got != want+1 {
			t.Error(place, got)
		}
	}
	for k, x := range b.Items {
		if got, ok := Get(b, x.Place); !ok || !object.Same(got, x.Obj) {
			t.Error(k, got, ok)
		}
	}
	if got, ok := Get(b, "a/a"); ok || len(got.Ctx)+len(got.Sibs) > 0 {
		t.Error(got, ok)
	}
	// The first one counts, in whatever order they stand.
	odd := api.Book{Items: []api.Item{{Place: "z", Obj: obj("a", 1, "first")}, {Place: "a"}, {Place: "z", Obj: obj("b", 1, "second")}}, Mints: []api.Mint{{Place: "z", N: math.MaxInt}, {Place: "a", N: -7}, {Place: "z", N: 3}}}
	if got, ok := Get(odd, "z"); !ok || got.Sibs[0].Value != "first" {
		t.Error(got, ok)
	}
	if Next(odd, "z") != math.MinInt || Next(odd, "a") != -6 {
		t.Error(Next(odd, "z"), Next(odd, "a"))
	}
	if got := Size(b); got != 3+3+3+object.Size(b.Items[0].Obj)+object.Size(b.Items[2].Obj) || got != 9+2*(16+64+1)+16 {
		t.Error(got)
	}
	if Size(api.Book{}) != 0 || Size(odd) != 3+2*80+11 {
		t.Error(Size(odd))
	}
}

func TestApply(t *testing.T) {
	record := must(t)
	b := full()
	x := obj("n9", 3, "new")
	for k, c := range []struct {
		record string
		change func(b *api.Book)
	}{
		{record(PutRecord("b/a", x)), func(b *api.Book) { b.Items[0].Obj = x }},
		{record(PutRecord("a/z", x)), func(b *api.Book) { b.Items = append([]api.Item{{Place: "a/z", Obj: x}}, b.Items...) }},
		{record(PutRecord("z/z", x)), func(b *api.Book) { b.Items = append(b.Items, api.Item{Place: "z/z", Obj: x}) }},
		{record(DropRecord("b/b")), func(b *api.Book) { b.Items = append(b.Items[:1:1], b.Items[2]) }},
		{record(DropRecord("a/a")), func(b *api.Book) {}},
		{record(MintRecord("a/a", 7)), func(b *api.Book) { b.Mints[0].N = 7 }},
		{record(MintRecord("b/a", 7)), func(b *api.Book) {}},
		{record(MintRecord("a/b", 4)), func(b *api.Book) { b.Mints = []api.Mint{b.Mints[0], {Place: "a/b", N: 4}, b.Mints[1]} }},
	} {
		want := full()
		c.change(&want)
		got, e := Apply(b, c.record)
		if e != api.OK || !same(got, want) || Check(got) != api.OK {
			t.Error(k, got, e)
		}
		got.Mints[0].Place = "changed"
		got.Items[0].Place = "changed"
		got.Items[len(got.Items)-1].Obj.Ctx[0].Node = "changed"
		if !same(b, full()) {
			t.Fatal(k, "what was handed in is changed", b)
		}
	}
}

func TestWhatIsNoRecordIsRefused(t *testing.T) {
	record := must(t)
	for _, good := range []string{record(PutRecord("b/k", obj("n", 1, "x"))), record(DropRecord("b/k")), record(MintRecord("b/k", 5))} {
		if _, e := Apply(api.Book{}, good); e != api.OK {
			t.Error(e)
		}
		for cut := range good {
			if got, e := Apply(full(), good[:cut]); e != api.ErrBad || !empty(got) {
				t.Error(cut, e)
			}
		}
		for _, s := range []string{good + "\x00", "\x00" + good[1:], "\x04" + good[1:], good[:5] + "B" + good[6:], good[:5] + "/" + good[6:]} {
			if got, e := Apply(full(), s); e != api.ErrBad || !empty(got) {
				t.Errorf("%q %v", s, e)
			}
		}
	}
	mint := record(MintRecord("b/k", 5))
	for _, n := range []string{"\x00\x00\x00\x00\x00\x00\x00\x00", "\xff\xff\xff\xff\xff\xff\xff\xff", "\x00\x20\x00\x00\x00\x00\x00\x01"} {
		if _, e := Apply(full(), mint[:8]+n); e != api.ErrBad {
			t.Errorf("%q %v", n, e)
		}
	}
	// A byte that tells what is gone is 0 or 1.
	put := record(PutRecord("b/k", obj("n", 1, "")))
	at := len(put) - 9
	if _, e := Apply(full(), put[:at]+"\x02"+put[at+1:]); e != api.ErrBad {
		t.Error(e)
	}
	if _, e := Apply(full(), put[:at]+"\x01"+put[at+1:]); e != api.OK {
		t.Error(e)
	}
}

func TestReplay(t *testing.T) {
	record := must(t)
	log := []string{record(MintRecord("b/k", 3)), record(PutRecord("b/k", obj("n", 1, "x"))), record(MintRecord("b/k", 2)), record(PutRecord("a/k", obj("n", 2, "y"))), record(DropRecord("b/k"))}
	b, n := Replay(frame.All(log))
	want := api.Book{Items: []api.Item{{Place: "a/k", Obj: obj("n", 2, "y")}}, Mints: []api.Mint{{Place: "b/k", N: 3}}}
	if !same(b, want) || n != len(frame.All(log)) || Next(b, "b/k") != 4 {
		t.Error(b, n)
	}
	if b, n := Replay(""); !empty(b) || n != 0 {
		t.Error(b, n)
	}
	// What is no record ends it, though its frame is whole.
	for k := range len(log) + 1 {
		s := frame.All(log[:k]) + frame.Put("none") + frame.All(log[k:])
		want, _ := Replay(frame.All(log[:k]))
		if b, n := Replay(s); !same(b, want) || n != len(frame.All(log[:k])) {
			t.Error(k, b, n)
		}
	}
}

// some is a book behind some records.
func some(t *testing.T, r *rand.Rand, many int) (api.Book, []string) {
	record := must(t)
	var b api.Book
	var log []string
	for range many {
		place := fmt.Sprintf("b/%d", r.IntN(4))
		one := record(DropRecord(place))
		switch r.IntN(4) {
		case 0, 1:
			one = record(PutRecord(place, obj("n", 1+r.IntN(5), "x")))
		case 2:
			one = record(MintRecord(place, 1+r.IntN(9)))
		}
		log = append(log, one)
		next, e := Apply(b, one)
		if e != api.OK {
			t.Fatal(e)
		}
		b = next
	}
	return b, log
}

func TestBytesAreReplayed(t *testing.T) {
	r := rand.New(rand.NewPCG(25, 26))
	for range 300 {
		b, log := some(t, r, r.IntN(12))
		if got, n := Replay(frame.All(log)); !same(got, b) || n != len(frame.All(log)) {
			t.Fatal(b, got, n)
		}
		s, e := Bytes(b)
		if got, n := Replay(s); e != api.OK || !same(got, b) || n != len(s) {
			t.Fatal(b, got, n, e)
		}
		if records, _ := frame.Scan(s); len(records) != len(b.Items)+len(b.Mints) {
			t.Fatal("not as few as can be", b)
		}
		all := frame.All(log)
		cut := r.IntN(len(all) + 1)
		records, whole := frame.Scan(all[:cut])
		want, _ := Replay(frame.All(records))
		if got, n := Replay(all[:cut]); !same(got, want) || n != whole {
			t.Fatal("cut", got, n)
		}
	}
	s, _ := Bytes(full())
	if got, _ := Replay(s); !reflect.DeepEqual(got.Mints, full().Mints) || len(got.Items) != 3 {
		t.Error(got)
	}
}
