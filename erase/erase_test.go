package erase

import (
	"pantler/api"
	"reflect"
	"testing"
)

func TestOthers(t *testing.T) {
	own := map[int]bool{api.EvCall: true, api.EvExchange: true, api.EvHand: true, api.EvReap: true, api.EvCompact: true}
	under := map[int]bool{api.EvDeliver: true, api.EvLose: true, api.EvTwice: true, api.EvFlush: true}
	for kind := -1; kind < 20; kind++ {
		for _, lane := range []string{"t", "u", "", "T/"} {
			for _, tenant := range []string{"t", "u", ""} {
				want := own[kind] && lane != tenant || under[kind] && lane != tenant && lane != ""
				if got := Others(api.Event{Kind: kind, Lane: lane, Node: "u", To: "u"}, tenant); got != want {
					t.Error(kind, lane, tenant, got)
				}
			}
		}
	}
}

// some are events of each kind in some lanes.
func some() []api.Event {
	var l []api.Event
	for kind := range 16 {
		for k, lane := range []string{"t", "", "u"} {
			l = append(l, api.Event{Kind: kind, Lane: lane, N: len(l), Call: api.Call{Kind: k, Key: lane, Ctx: []api.Seen{{Node: "a", More: []int{2, 4}}}}})
		}
	}
	return l
}

func TestErase(t *testing.T) {
	for _, tenant := range []string{"t", "u", "", "v"} {
		l := Erase(some(), tenant)
		var want []api.Event
		for _, e := range some() {
			if !Others(e, tenant) {
				want = append(want, e)
			}
		}
		if !reflect.DeepEqual(l, want) || !reflect.DeepEqual(Erase(l, tenant), l) {
			t.Error(tenant, l)
		}
		if !reflect.DeepEqual(Calls(l, tenant), Calls(some(), tenant)) {
			t.Error("calls are erased", tenant)
		}
	}
	for _, e := range Erase(Erase(some(), "t"), "u") {
		if e.Lane != "" && (e.Kind < api.EvTick || e.Kind == api.EvExchange || e.Kind == api.EvHand || e.Kind == api.EvReap || e.Kind == api.EvCompact) && e.Kind > 0 {
			t.Error("of one of both", e)
		}
	}
	if len(Erase(nil, "t"))+len(Calls(nil, "t")) != 0 {
		t.Error("events of nothing")
	}
}

func TestCalls(t *testing.T) {
	for k, tenant := range []string{"t", "", "u"} {
		if got := Calls(some(), tenant); len(got) != 1 || got[0].Kind != k || got[0].Key != tenant {
			t.Error(tenant, got)
		}
	}
	if got := Calls(some(), "v"); len(got) != 0 {
		t.Error(got)
	}
}

func TestAnswersAreNewMemory(t *testing.T) {
	l := some()
	Erase(l, "t")[0].Call.Ctx[0].More[0] = 99
	Calls(l, "t")[0].Ctx[0].More[1] = 99
	Erase(l, "t")[1].Lane = "changed"
	if !reflect.DeepEqual(l, some()) {
		t.Error("changed")
	}
}
