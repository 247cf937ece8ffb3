package run

import (
	"encoding/hex"
	"fmt"
	"math/rand/v2"
	"pantler/api"
	"pantler/book"
	"pantler/cluster"
	"pantler/fair"
	"pantler/history"
	"pantler/regwire"
	"pantler/script"
	"pantler/token"
	"strings"
	"testing"
)

func entry(key, value string) api.Entry {
	return api.Entry{Key: key, Reg: api.Reg{N: 1, Value: value}}
}

func setup(nodes int) api.Setup {
	s := api.Setup{Entries: []api.Entry{entry("acl/t/b/all", "rwl"), entry("tenant/t/burst", "100"), entry("tenant/t/secret", "x")}}
	for k := range nodes {
		s.Members = append(s.Members, api.Member{Name: fmt.Sprint("n", k+1), Rack: fmt.Sprint("r", k), Zone: "z", Up: true})
	}
	return s
}

func call(node string, kind int, key, value string) api.Event {
	return api.Event{Kind: api.EvCall, Node: node, Lane: "t", Call: api.Call{Kind: kind, Token: token.Make("x", "t", "u", 9), Bucket: "b", Key: key, Value: value}}
}

func TestWhatIsNone(t *testing.T) {
	for _, b := range []string{"", "x", script.Bytes(setup(3), nil) + "x"} {
		if got := Run(b); got != "bad\n" {
			t.Errorf("%q", got)
		}
		if got := Settle(b); got != "bad\n" {
			t.Errorf("%q", got)
		}
	}
	for _, b := range []string{script.Bytes(api.Setup{}, nil), script.Bytes(setup(9), nil), script.Bytes(api.Setup{Members: setup(1).Members, Entries: []api.Entry{{}}}, nil)} {
		if got := Run(b); got != "none\n" {
			t.Errorf("%q", got)
		}
		if got := Settle(b); got != "none\n" {
			t.Errorf("%q", got)
		}
	}
}

// events are a few calls at a cluster of two nodes.
func events() []api.Event {
	deliver := api.Event{Kind: api.EvDeliver, Lane: "t"}
	flush := func(node string) api.Event { return api.Event{Kind: api.EvFlush, Node: node, Lane: "t"} }
	return []api.Event{
		call("n1", api.CallPut, "k", "v"), flush("n1"), deliver, deliver, flush("n1"), flush("n2"), deliver, deliver,
		call("n2", api.CallGet, "k", ""), deliver, deliver, deliver, deliver,
		call("n2", api.CallList, "", ""), deliver, deliver, deliver, deliver,
		call("n1", api.CallGet, "", ""), call("n2", api.CallGet, "x", ""),
		{Kind: api.EvHand, Node: "n1", Lane: "a"}, {Kind: api.EvCrash, Node: "n2"},
	}
}

func TestLines(t *testing.T) {
	c, _ := cluster.Run(setup(2), events())
	digest := hex.EncodeToString([]byte(regwire.Digest(c.Entries("n1"))))[:8]
	size := book.Size(c.Book("n1", "t"))
	want := fmt.Sprintf(`call n1 t 1 2 0 0 0 1
call n2 t 1 1 0 1 0 0
call n2 t 2 4 0 0 1 0
call n1 t 2 1 1 0 0 0
call n2 t 3 1 -
node n1 up %[1]s
keeps n1 a 0 0
keeps n1 t 1 %[2]d
node n2 down %[1]s
keeps n2 a 0 0
keeps n2 t 1 %[2]d
causal yes
settled yes
`, digest, size)
	if got := Run(script.Bytes(setup(2), events())); got != want {
		t.Error(got)
	}
	if got := Settle(script.Bytes(setup(2), events())); got != strings.Replace(want, "node n2 down", "node n2 up", 1) {
		t.Error(got)
	}
	if size != 3+16+64+1 {
		t.Error(size)
	}
}

func TestWhatIsNotSettled(t *testing.T) {
	l := events()[:5]
	got := Run(script.Bytes(setup(2), l))
	if !strings.Contains(got, "call n1 t 1 2 -\n") || !strings.HasSuffix(got, "causal yes\nsettled yes\n") {
		t.Error(got)
	}
	if got := Run(script.Bytes(setup(2), l[:3])); !strings.HasSuffix(got, "settled no\n") {
		t.Error(got)
	}
	if got := Settle(script.Bytes(setup(2), l[:3])); !strings.Contains(got, "call n1 t 1 2 0 0 0 1\n") || !strings.HasSuffix(got, "causal yes\nsettled yes\n") {
		t.Error(got)
	}
}

// some are events at random.
func some(r *rand.Rand, nodes int) []api.Event {
	var l []api.Event
	for range 150 {
		e := api.Event{Kind: r.IntN(16), Node: fmt.Sprint("n", 1+r.IntN(nodes)), To: fmt.Sprint("n", 1+r.IntN(nodes)), Lane: []string{"t", "t", ""}[r.IntN(3)], N: r.IntN(20)}
		switch {
		case e.Kind == api.EvCall:
			e = call(e.Node, 1+r.IntN(4), fmt.Sprint("k", r.IntN(2)), "")
			if e.Call.Kind == api.CallList {
				e.Call.Key = ""
			}
		case e.Kind == api.EvAdmin:
			e.Admin = api.Admin{Kind: 5 + r.IntN(3), Member: api.Member{Name: e.To, Rack: "r", Zone: "z", Up: r.IntN(3) > 0}}
		case e.Kind == api.EvLose || e.Kind == api.EvCrash && r.IntN(2) == 0:
			e.Kind = api.EvDeliver
		}
		l = append(l, e)
	}
	return l
}

func TestWhateverIsRun(t *testing.T) {
	r := rand.New(rand.NewPCG(55, 56))
	for range 60 {
		nodes := 1 + r.IntN(4)
		s, l := setup(nodes), some(r, nodes)
		b := script.Bytes(s, l)
		if got := Run(b); !strings.Contains(got, "\ncausal yes\n") || got != Run(b) {
			t.Fatal(got)
		}
		got := Settle(b)
		if !strings.HasSuffix(got, "\ncausal yes\nsettled yes\n") {
			t.Fatal(got)
		}
		c, _ := cluster.Run(s, l)
		fair.Drive(c, 2)
		if strings.Count(got, "call ") != len(c.Deeds()) || strings.Count(got, " -\n") != history.Unanswered(c.Deeds()) {
			t.Fatal(got)
		}
	}
}
