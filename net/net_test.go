package net

import (
	"fmt"
	"math"
	"math/rand/v2"
	"slices"
	"testing"
)

func TestTake(t *testing.T) {
	for k, want := range map[int]int{0: 0, 1: 1, 2: 0, 5: 1, -1: 1, -2: 0, math.MaxInt: 1, math.MinInt: 0} {
		n := New()
		n.Send("t", "first")
		n.Send("t", "second")
		all := n.All("t")
		s, ok := n.Take("t", k)
		if !ok || s != all[want] || !slices.Equal(n.All("t"), []string{all[1-want]}) || n.Len("t") != 1 {
			t.Error(k, s, ok)
		}
		if s, ok := n.Take("t", k); !ok || s != all[1-want] || n.Len("t") != 0 || len(n.Lanes()) != 0 {
			t.Error(k, s, ok)
		}
		if s, ok := n.Take("t", k); ok || s != "" {
			t.Error(k, s, ok)
		}
	}
}

func TestTwice(t *testing.T) {
	n := New()
	if n.Twice("t", 0) || n.Len("t") != 0 || len(n.Lanes()) != 0 {
		t.Error("nothing is doubled")
	}
	for _, s := range []string{"a", "b", "c"} {
		n.Send("t", s)
	}
	if !n.Twice("t", -2) || !slices.Equal(n.All("t"), []string{"a", "b", "c", "b"}) {
		t.Error(n.All("t"))
	}
	if !n.Twice("t", 4) || !slices.Equal(n.All("t"), []string{"a", "b", "c", "b", "a"}) {
		t.Error(n.All("t"))
	}
}

func TestLanes(t *testing.T) {
	n := New()
	for _, lane := range []string{"z", "", "a", "Z", "z", "ab"} {
		n.Send(lane, "in "+lane)
	}
	if got := n.Lanes(); !slices.Equal(got, []string{"", "Z", "a", "ab", "z"}) {
		t.Error(got)
	}
	if n.Len("z") != 2 || n.Len("") != 1 || n.Len("y") != 0 || len(n.All("y")) != 0 {
		t.Error("lengths")
	}
	all := n.All("z")
	all[0] = "changed"
	_ = append(all[:1], "changed")
	if !slices.Equal(n.All("z"), []string{"in z", "in z"}) {
		t.Error(n.All("z"))
	}
	n.Take("a", 0)
	if got := n.Lanes(); !slices.Equal(got, []string{"", "Z", "ab", "z"}) {
		t.Error(got)
	}
}

func TestNilAndZero(t *testing.T) {
	for _, n := range []*Net{nil, {}} {
		n.Send("t", "a")
		s, ok := n.Take("t", 0)
		if ok || s != "" || n.Twice("t", 0) || n.Len("t") != 0 || len(n.Lanes()) != 0 || len(n.All("t")) != 0 {
			t.Error("a net that is none has something")
		}
	}
}

func TestLanesDoNotNoticeOneAnother(t *testing.T) {
	r := rand.New(rand.NewPCG(33, 34))
	for range 200 {
		n := New()
		want := map[string][]string{}
		for k := range 60 {
			lane := string(rune('a' + r.IntN(3)))
			l, at := want[lane], r.IntN(9)-4
			place := 0
			if len(l) > 0 {
				place = ((at % len(l)) + len(l)) % len(l)
			}
			switch r.IntN(4) {
			case 0, 1:
				n.Send(lane, fmt.Sprint(k))
				want[lane] = append(l, fmt.Sprint(k))
			case 2:
				if s, ok := n.Take(lane, at); ok != (len(l) > 0) || ok && s != l[place] {
					t.Fatal(s, ok, l)
				}
				if len(l) > 0 {
					want[lane] = slices.Delete(slices.Clone(l), place, place+1)
				}
			default:
				if ok := n.Twice(lane, at); ok != (len(l) > 0) {
					t.Fatal(ok, l)
				}
				if len(l) > 0 {
					want[lane] = append(l, l[place])
				}
			}
			for lane, l := range want {
				if !slices.Equal(n.All(lane), l) || n.Len(lane) != len(l) || slices.Contains(n.Lanes(), lane) != (len(l) > 0) {
					t.Fatal(lane, n.All(lane), l)
				}
			}
		}
	}
}
