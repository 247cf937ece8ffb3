package text

import (
	"fmt"
	"math"
	"math/rand/v2"
	"pantler/api"
	"reflect"
	"strings"
	"testing"
)

func TestWords(t *testing.T) {
	for s, want := range map[string]string{"": "_", "_": "%5f", "a": "a", "aZ09-./": "aZ09-./", " ": "%20", "%": "%25", "é": "%c3%a9", "\n": "%0a", "\x00\xff": "%00%ff", "a:b,c+d": "a%3ab%2cc%2bd", "__": "%5f%5f"} {
		if got := Word(s); got != want {
			t.Errorf("%q: %q", s, got)
		}
		if got, ok := Read(want); got != s || !ok {
			t.Errorf("%q: %q %v", want, got, ok)
		}
	}
	for c := range 256 {
		s := string([]byte{byte(c)})
		want := fmt.Sprintf("%%%02x", c)
		if strings.Contains("abcdefghijklmnopqrstuvwxyzABCDEFGHIJKLMNOPQRSTUVWXYZ0123456789-./", s) {
			want = s
		}
		if got := Word(s); got != want {
			t.Error(c, got)
		}
	}
	for _, w := range []string{"", "%", "%4", "%41", "%5F", "%c3%A9", "a b", "a_", "_a", "%g0", "%0g", "%-1", "%%", "a%", "a%2", "\n", "é", ":", "%5f_", "% 5"} {
		if got, ok := Read(w); got != "" || ok {
			t.Errorf("%q: %q %v", w, got, ok)
		}
	}
}

// events are some, with their lines.
func events() map[string]api.Event {
	call := api.Call{Kind: 2, Token: "t\x01", Bucket: "b", Key: "/", Value: "", Ctx: []api.Seen{{Node: "n1", Base: 3, More: []int{5, -7}}, {Node: "", Base: -1}}, Time: 9}
	admin := api.Admin{Kind: 5, Tenant: "t", Bucket: "", Field: "f", Text: "x y", N: -2, Member: api.Member{Name: "n1", Rack: "r", Zone: "", Up: true}}
	down := admin
	down.Member.Up = false
	return map[string]api.Event{
		"tick n1 _ _ 0":                               {Kind: api.EvTick, Node: "n1"},
		"deliver _ _ t -3":                            {Kind: api.EvDeliver, Lane: "t", N: -3},
		"lose _ _ _ 9223372036854775807":              {Kind: api.EvLose, N: math.MaxInt},
		"twice _ _ _ -9223372036854775808":            {Kind: api.EvTwice, N: math.MinInt},
		"flush n1 _ _ 0":                              {Kind: api.EvFlush, Node: "n1"},
		"crash n1 _ _ 12":                             {Kind: api.EvCrash, Node: "n1", N: 12},
		"start N%20 _ _ 0":                            {Kind: api.EvStart, Node: "N "},
		"gossip n1 n2 _ 0":                            {Kind: api.EvGossip, Node: "n1", To: "n2"},
		"exchange n1 n2 t 0":                          {Kind: api.EvExchange, Node: "n1", To: "n2", Lane: "t"},
		"hand n1 _ t 0":                               {Kind: api.EvHand, Node: "n1", Lane: "t"},
		"reap n1 _ t 5":                               {Kind: api.EvReap, Node: "n1", Lane: "t", N: 5},
		"compact n1 _ t 0":                            {Kind: api.EvCompact, Node: "n1", Lane: "t"},
		"kind0 _ _ _ 0":                               {},
		"kind15 _ _ _ 0":                              {Kind: 15},
		"kind-4 n1 _ _ 0":                             {Kind: -4, Node: "n1"},
		"call n1 _ t 0 2 t%01 b / _ n1:3+5+-7,_:-1 9": {Kind: api.EvCall, Node: "n1", Lane: "t", Call: call},
		"call _ _ _ 0 0 _ _ _ _ _ 0":                  {Kind: api.EvCall},
		"admin n1 _ _ 0 5 t _ f x%20y -2 n1 r _ up":   {Kind: api.EvAdmin, Node: "n1", Admin: admin},
		"admin n1 _ _ 0 5 t _ f x%20y -2 n1 r _ down": {Kind: api.EvAdmin, Node: "n1", Admin: down},
	}
}

func TestLines(t *testing.T) {
	for line, e := range events() {
		if got := Line(e); got != line {
			t.Errorf("%q: %q", line, got)
		}
		if got, err := Parse(line); err != api.OK || !reflect.DeepEqual(got, e) {
			t.Errorf("%q: %v %v", line, got, err)
		}
	}
	// What a kind does not tell is not there.
	e := events()["call n1 _ t 0 2 t%01 b / _ n1:3+5+-7,_:-1 9"]
	e.Kind = api.EvTick
	if got := Line(e); got != "tick n1 _ t 0" {
		t.Error(got)
	}
}

func TestOtherTextsAreNoLines(t *testing.T) {
	var none []string
	for line := range events() {
		none = append(none, line+" ", " "+line, line+"\n", strings.Replace(line, " ", "  ", 1), line+" 0", strings.ToUpper(line[:1])+line[1:])
		for cut := range line {
			if line[cut] == ' ' {
				none = append(none, line[:cut])
			}
		}
	}
	none = append(none, "", "tick", "tick n1 _ _ ", "tick n1 _ _ 00", "tick n1 _ _ +1", "tick n1 _ _ -0", "tick n1 _ _ x", "tick _n _ _ 0", "kind6 n1 _ _ 0", "kind1 _ _ _ 0", "kind _ _ _ 0", "kind00 _ _ _ 0", "kind+9 _ _ _ 0", "6 n1 _ _ 0", "99 n1 _ _ 0", "_ _ _ _ 0",
		"call _ _ _ 0 0 _ _ _ _ n1 0", "call _ _ _ 0 0 _ _ _ _ n1: 0", "call _ _ _ 0 0 _ _ _ _ n1:1+ 0", "call _ _ _ 0 0 _ _ _ _ n1:1, 0", "call _ _ _ 0 0 _ _ _ _ :1 0", "call _ _ _ 0 0 _ _ _ _ n1:01 0", "call _ _ _ 0 0 _ _ _ _ n1:1:2 0", "call _ _ _ 0 0 _ _ _ _ n1:+1 0", "call _ _ _ 0 0 _ _ _ _ _,_ 0", "call _ _ _ 0 0 _ _ _ _  0",
		"admin n1 _ _ 0 5 t _ f x -2 n1 r _ _", "admin n1 _ _ 0 5 t _ f x -2 n1 r _ Up", "admin n1 _ _ 0 5 t _ f x -2 n1 r _ 1")
	for _, s := range none {
		if got, err := Parse(s); err != api.ErrBad || !reflect.DeepEqual(got, api.Event{}) {
			t.Errorf("%q: %v %v", s, got, err)
		}
	}
}

func TestAllLines(t *testing.T) {
	var l []api.Event
	var lines []string
	for line, e := range events() {
		l = append(l, e)
		lines = append(lines, line)
	}
	s := strings.Join(lines, "\n") + "\n"
	if All(l) != s || All(nil) != "" {
		t.Error("not as lines")
	}
	if got, n, err := ParseAll(s); err != api.OK || n != 0 || !reflect.DeepEqual(got, l) {
		t.Error(got, n, err)
	}
	if got, n, err := ParseAll(""); err != api.OK || n != 0 || len(got) != 0 {
		t.Error(got, n, err)
	}
	for s, want := range map[string]int{"\n": 1, "x": 1, "tick n1 _ _ 0": 1, s + "x\n": len(l) + 1, s + "\n": len(l) + 1, s + "tick n1 _ _ 0": len(l) + 1, "tick n1 _ _ 0\n\n" + s: 2, "tick n1 _ _ 0\ntick\n" + s: 2, "tick n1 _ _ 0\r\n": 1} {
		if got, n, err := ParseAll(s); err != api.ErrBad || n != want || len(got) != 0 {
			t.Errorf("%q: %v %d %v", s, got, n, err)
		}
	}
}

func TestNoOtherTextLeadsThere(t *testing.T) {
	r := rand.New(rand.NewPCG(63, 64))
	var lines []string
	for line := range events() {
		lines = append(lines, line)
	}
	for range 20000 {
		b := []byte(lines[r.IntN(len(lines))])
		for range 1 + r.IntN(2) {
			at, c := r.IntN(len(b)), " _%+-:,.0a5f"[r.IntN(12)]
			switch r.IntN(3) {
			case 0:
				b[at] = c
			case 1:
				b = append(b[:at], b[at+1:]...)
			default:
				b = append(b[:at], append([]byte{c}, b[at:]...)...)
			}
		}
		if e, err := Parse(string(b)); err == api.OK && Line(e) != string(b) {
			t.Fatalf("%q leads to %q", b, Line(e))
		}
	}
}
