package message

import (
	"math"
	"pantler/api"
	"pantler/object"
	"pantler/objwire"
	"pantler/octet"
	"pantler/regwire"
	"reflect"
	"strings"
	"testing"
)

// obj is an object of one value.
func obj(node string, n int, value string) api.Obj {
	o, _ := object.New(nil, api.Sib{Dot: api.Dot{Node: node, N: n}, Value: value})
	return o
}

// full is a message that tells something of each part.
func full() api.Msg {
	return api.Msg{
		Kind: api.MsgItems, From: "n1", To: "n2", Op: 258, Err: api.ErrFew, Place: "b/\x00", Obj: obj("n1", 1, "x"),
		Texts:   []string{"", "one", "two"},
		Leaves:  []api.Leaf{{Place: "z", Digest: "1"}, {Place: "", Digest: ""}},
		Items:   []api.Item{{Place: "b/a", Obj: obj("n2", 2, "")}, {Place: "b/b"}},
		Entries: []api.Entry{{Key: "a", Reg: api.Reg{N: 1, By: "n1", Value: "v"}}},
	}
}

// small is a message that tells as little as can be.
func small() api.Msg { return api.Msg{Kind: 1, From: "a", To: "a"} }

func empty(m api.Msg) bool {
	return m.Kind == 0 && m.From == "" && m.To == "" && m.Op == 0 && m.Err == 0 && m.Place == "" && len(m.Obj.Ctx)+len(m.Obj.Sibs)+len(m.Texts)+len(m.Leaves)+len(m.Items)+len(m.Entries) == 0
}

func TestBytesArePartByPart(t *testing.T) {
	m := full()
	var w octet.Writer
	w.Byte(10)
	w.Text("n1")
	w.Text("n2")
	w.Int(258)
	w.Byte(15)
	w.Text("b/\x00")
	objwire.Obj(&w, m.Obj)
	w.Texts([]string{"", "one", "two"})
	w.Count(2)
	w.Texts(nil)
	s := strings.TrimSuffix(w.Bytes(), "\x00\x00\x00\x00")
	w = octet.Writer{}
	w.Text("z")
	w.Text("1")
	w.Text("")
	w.Text("")
	w.Count(2)
	w.Text("b/a")
	objwire.Obj(&w, m.Items[0].Obj)
	w.Text("b/b")
	objwire.Obj(&w, api.Obj{})
	regwire.Entries(&w, m.Entries)
	if got := Bytes(m); got != s+w.Bytes() {
		t.Errorf("%q", got)
	}
	if got := Bytes(api.Msg{}); got != strings.Repeat("\x00", 1+4+4+8+1+4+8+4+4+4+4) {
		t.Errorf("%q", got)
	}
	if got := Bytes(api.Msg{Kind: 257, Err: -1, Op: -1}); got != "\x01"+strings.Repeat("\x00", 8)+strings.Repeat("\xff", 9)+strings.Repeat("\x00", 28) {
		t.Errorf("%q", got)
	}
}

func TestWhatMayBeIsReadAsItWas(t *testing.T) {
	for kind := api.MsgWrite; kind <= api.MsgGossip; kind++ {
		for _, m := range []api.Msg{full(), small()} {
			m.Kind, m.Err, m.Op = kind, api.Errno(kind), math.MaxInt
			got, e := Of(Bytes(m))
			if e != api.OK || Check(m) != api.OK || !reflect.DeepEqual(got, m) && Bytes(got) != Bytes(m) {
				t.Error(kind, got, e)
			}
		}
	}
	if got, e := Of(Bytes(full())); e != api.OK || !object.Same(got.Obj, full().Obj) || len(got.Texts) != 3 || got.Leaves[0] != full().Leaves[0] || got.Items[1].Place != "b/b" || got.Entries[0] != full().Entries[0] || got.Place != "b/\x00" || got.Err != api.ErrFew || got.Op != 258 || got.From != "n1" || got.To != "n2" || got.Kind != api.MsgItems {
		t.Error(got, e)
	}
}

func TestWhatMayNotBeIsRefused(t *testing.T) {
	odd := api.Obj{Ctx: []api.Seen{{Node: "a"}}}
	for k, change := range []func(m *api.Msg){
		func(m *api.Msg) { m.Kind = 0 },
		func(m *api.Msg) { m.Kind = 15 },
		func(m *api.Msg) { m.Kind = -1 },
		func(m *api.Msg) { m.Kind = 257 },
		func(m *api.Msg) { m.From = "" },
		func(m *api.Msg) { m.From = "N" },
		func(m *api.Msg) { m.To = "" },
		func(m *api.Msg) { m.To = "n/1" },
		func(m *api.Msg) { m.Op = -1 },
		func(m *api.Msg) { m.Op = math.MinInt },
		func(m *api.Msg) { m.Err = 16 },
		func(m *api.Msg) { m.Err = -1 },
		func(m *api.Msg) { m.Err = 256 },
		func(m *api.Msg) { m.Obj = odd },
		func(m *api.Msg) { m.Items[0].Obj = odd },
		func(m *api.Msg) { m.Items[0].Place = "b" },
		func(m *api.Msg) { m.Items[0], m.Items[1] = m.Items[1], m.Items[0] },
		func(m *api.Msg) { m.Items[1].Place = "b/a" },
		func(m *api.Msg) { m.Entries[0].Key = "" },
		func(m *api.Msg) { m.Entries = append(m.Entries, m.Entries[0]) },
		func(m *api.Msg) { m.Entries[0].Reg.N = 0 },
	} {
		m := full()
		change(&m)
		if e := Check(m); e != api.ErrArg {
			t.Error(k, e)
		}
		// Of kinds and errors the byte alone is written: 257 is read as 1, and 256 as 0.
		if got, e := Of(Bytes(m)); k != 3 && k != 12 && (e != api.ErrBad || !empty(got)) {
			t.Error(k, got, e)
		}
	}
	// A place, texts and leaves may be any.
	m := full()
	m.Place, m.Texts, m.Leaves = strings.Repeat("p", 1000), []string{"\xff"}, []api.Leaf{{Place: "B", Digest: "x"}, {Place: "A"}}
	if got, e := Of(Bytes(m)); e != api.OK || Check(m) != api.OK || Bytes(got) != Bytes(m) {
		t.Error(e)
	}
}

func TestOtherBytesAreNone(t *testing.T) {
	for _, m := range []api.Msg{full(), small()} {
		s := Bytes(m)
		for cut := range s {
			if got, e := Of(s[:cut]); e != api.ErrBad || !empty(got) {
				t.Error(cut, e)
			}
		}
		if got, e := Of(s + "\x00"); e != api.ErrBad || !empty(got) {
			t.Error(got, e)
		}
	}
	for _, s := range []string{"", "\x00", strings.Repeat("\x00", 49), strings.Repeat("\xff", 100)} {
		if got, e := Of(s); e != api.ErrBad || !empty(got) {
			t.Error(got, e)
		}
	}
	// A byte that tells what is gone is 0 or 1.
	m := small()
	m.Obj = obj("n", 1, "")
	s := Bytes(m)
	at := len(s) - 16 - 9
	for c, want := range map[string]api.Errno{"\x00": api.OK, "\x01": api.OK, "\x02": api.ErrBad} {
		if _, e := Of(s[:at] + c + s[at+1:]); e != want {
			t.Errorf("%q %v", c, e)
		}
	}
}

func TestGreatCounts(t *testing.T) {
	for _, many := range []int{api.MaxCount, api.MaxCount + 1} {
		want := api.OK
		if many > api.MaxCount {
			want = api.ErrBad
		}
		texts, leaves := small(), small()
		texts.Texts = make([]string, many)
		leaves.Leaves = make([]api.Leaf, many)
		for k, m := range []api.Msg{texts, leaves} {
			if got, e := Of(Bytes(m)); e != want || len(got.Texts)+len(got.Leaves) != many && e == api.OK {
				t.Error(k, many, e)
			}
		}
	}
}
