package script

import (
	"math"
	"pantler/api"
	"pantler/octet"
	"pantler/regwire"
	"reflect"
	"strings"
	"testing"
)

func setup() api.Setup {
	return api.Setup{
		Members: []api.Member{{Name: "n1", Rack: "r1", Zone: "z1", Up: true}, {Name: "N/2", Rack: "", Zone: "\x00"}},
		Entries: []api.Entry{{Key: "b", Reg: api.Reg{N: -1, By: "X", Value: "v"}}, {Key: "a", Reg: api.Reg{N: 1}}},
	}
}

// events are one of each kind, told as bytes tell them.
func events() []api.Event {
	var l []api.Event
	for kind := range 256 {
		e := api.Event{Kind: kind, Node: "n1", To: "n2", Lane: "t", N: math.MinInt + kind}
		if kind == api.EvCall {
			e.Call = api.Call{Kind: 255, Token: "tok\x00", Bucket: "b", Key: "k", Value: "v", Ctx: []api.Seen{{Node: "A", Base: -1, More: []int{5, 3}}}, Time: -7}
		}
		if kind == api.EvAdmin {
			e.Admin = api.Admin{Kind: 200, Tenant: "t", Bucket: "b", Field: "f", Text: "x", N: 9, Member: api.Member{Name: "m", Rack: "r", Zone: "z", Up: true}}
		}
		l = append(l, e)
	}
	return l
}

func TestBytesArePartByPart(t *testing.T) {
	if got := Bytes(api.Setup{}, nil); got != strings.Repeat("\x00", 12) {
		t.Errorf("%q", got)
	}
	var w octet.Writer
	texts := func(l ...string) {
		for _, s := range l {
			w.Text(s)
		}
	}
	w.Count(2)
	texts("n1", "r1", "z1")
	w.Byte(1)
	texts("N/2", "", "\x00")
	w.Byte(0)
	regwire.Entries(&w, setup().Entries)
	w.Count(3)
	w.Byte(api.EvCall)
	texts("n1", "n2", "t")
	w.Int(math.MinInt + 1)
	w.Byte(255)
	texts("tok\x00", "b", "k", "v")
	w.Count(1)
	w.Text("A")
	w.Int(-1)
	w.Count(2)
	w.Int(5)
	w.Int(3)
	w.Int(-7)
	w.Byte(api.EvTick)
	texts("n1", "n2", "t")
	w.Int(math.MinInt + 6)
	w.Byte(api.EvAdmin)
	texts("n1", "n2", "t")
	w.Int(math.MinInt + 14)
	w.Byte(200)
	texts("t", "b", "f", "x")
	w.Int(9)
	texts("m", "r", "z")
	w.Byte(1)
	l := events()
	if got := Bytes(setup(), []api.Event{l[1], l[6], l[14]}); got != w.Bytes() {
		t.Errorf("%q", got)
	}
	// What an event's kind does not tell is not written.
	tick := l[6]
	tick.Call, tick.Admin = l[1].Call, l[14].Admin
	if Bytes(api.Setup{}, []api.Event{tick}) != Bytes(api.Setup{}, l[6:7]) {
		t.Error("more is written")
	}
	if Bytes(api.Setup{}, []api.Event{{Kind: 256 + 6}}) != Bytes(api.Setup{}, []api.Event{{Kind: 6}}) {
		t.Error("a kind has one byte")
	}
}

func TestWhatIsToldIsReadAsItWas(t *testing.T) {
	for k, l := range [][]api.Event{nil, events(), events()[:1]} {
		for m, s := range []api.Setup{{}, setup()} {
			gotSetup, got, e := Of(Bytes(s, l))
			if e != api.OK || !reflect.DeepEqual(gotSetup, s) || !reflect.DeepEqual(got, l) {
				t.Error(k, m, e)
			}
		}
	}
}

func refused(t *testing.T, why any, s string) {
	t.Helper()
	if setup, l, e := Of(s); e != api.ErrBad || len(setup.Members)+len(setup.Entries)+len(l) > 0 {
		t.Error(why, e)
	}
}

func TestOtherBytesAreNone(t *testing.T) {
	l := events()
	s := Bytes(setup(), []api.Event{l[0], l[1], l[14], l[200]})
	for cut := range s {
		refused(t, cut, s[:cut])
	}
	refused(t, "a byte more", s+"\x00")
	// A byte that tells whether a member is up is 0 or 1.
	at := strings.Index(s, "z1") + 2
	refused(t, "2", s[:at]+"\x02"+s[at+1:])
	admin := Bytes(api.Setup{}, l[14:15])
	refused(t, "2", admin[:len(admin)-1]+"\x02")
	if _, _, e := Of(admin[:len(admin)-1] + "\x00"); e != api.OK {
		t.Error(e)
	}
}

func TestGreatCounts(t *testing.T) {
	for _, more := range []int{0, 1} {
		for k, s := range []string{
			Bytes(api.Setup{Members: make([]api.Member, api.MaxCount+more)}, nil),
			Bytes(api.Setup{Entries: make([]api.Entry, api.MaxCount+more)}, nil),
			Bytes(api.Setup{}, make([]api.Event, api.MaxEvents+more)),
		} {
			if more == 1 {
				refused(t, k, s)
			} else if setup, l, e := Of(s); e != api.OK || len(setup.Members)+len(setup.Entries)+len(l) < api.MaxEvents {
				t.Error(k, e)
			}
		}
	}
}
