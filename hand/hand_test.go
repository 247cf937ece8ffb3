package hand

import (
	"math"
	"slices"
	"testing"
)

func TestNumbersFollowOneAnother(t *testing.T) {
	for last, h := range map[int]*Hand{7: New(7), 0: {}, -3: New(-3), math.MaxInt - 2: New(math.MaxInt - 2)} {
		if len(h.Places()) != 0 || h.Ready("b/a", "d", []string{"n"}) {
			t.Error("a new one hands something over")
		}
		for k, place := range []string{"b/a", "b/b"} {
			if got := h.Start(place, "d"); got != last+1+k {
				t.Error(last, got)
			}
		}
	}
	h := New(5)
	h.Start("b/a", "d")
	h.Drop("b/a")
	if got := h.Start("b/a", "d"); got != 7 {
		t.Error(got)
	}
}

func TestReady(t *testing.T) {
	h := New(0)
	a, b := h.Start("b/a", "one"), h.Start("b/b", "two")
	h.Taken(a, "n1")
	if h.Ready("b/a", "one", []string{"n1", "n2"}) || !h.Ready("b/a", "one", []string{"n1"}) || !h.Ready("b/a", "one", []string{"n1", "n1"}) {
		t.Error("one has taken it")
	}
	h.Taken(a, "n2")
	h.Taken(a, "n2")
	h.Taken(a, "n3")
	for _, nodes := range [][]string{{"n1", "n2"}, {"n2"}, {"n3", "n1"}} {
		if !h.Ready("b/a", "one", nodes) {
			t.Error("not ready", nodes)
		}
	}
	if h.Ready("b/a", "one", nil) || h.Ready("b/a", "one", []string{"n4"}) || h.Ready("b/a", "two", []string{"n1"}) || h.Ready("b/b", "two", []string{"n1"}) || h.Ready("b/c", "one", []string{"n1"}) || h.Ready("b/a", "", []string{"n1"}) {
		t.Error("ready")
	}
	h.Taken(b, "n1")
	h.Taken(b+1, "n1")
	h.Taken(0, "n1")
	if !h.Ready("b/b", "two", []string{"n1"}) || h.Ready("b/b", "two", []string{"n1", "n2"}) {
		t.Error("another one's was taken")
	}
	if got := h.Places(); !slices.Equal(got, []string{"b/a", "b/b"}) {
		t.Error(got)
	}
}

func TestBegunAgain(t *testing.T) {
	h := New(0)
	first := h.Start("b/a", "d")
	h.Taken(first, "n1")
	second := h.Start("b/a", "d")
	h.Taken(first, "n1")
	if h.Ready("b/a", "d", []string{"n1"}) || second != first+1 || !slices.Equal(h.Places(), []string{"b/a"}) {
		t.Error("what was taken ahead counts")
	}
	h.Taken(second, "n1")
	if !h.Ready("b/a", "d", []string{"n1"}) {
		t.Error("not ready")
	}
	h.Start("b/a", "e")
	if h.Ready("b/a", "d", []string{"n1"}) || h.Ready("b/a", "e", []string{"n1"}) {
		t.Error("of another digest")
	}
}

func TestDrop(t *testing.T) {
	h := New(0)
	for _, place := range []string{"z", "", "a", "Z"} {
		h.Start(place, "d")
	}
	if got := h.Places(); !slices.Equal(got, []string{"", "Z", "a", "z"}) {
		t.Error(got)
	}
	h.Taken(3, "n1")
	h.Drop("a")
	h.Drop("a")
	h.Drop("none")
	h.Taken(3, "n1")
	if got := h.Places(); !slices.Equal(got, []string{"", "Z", "z"}) || h.Ready("a", "d", []string{"n1"}) {
		t.Error(got)
	}
}

func TestNil(t *testing.T) {
	var h *Hand
	if got := h.Start("b/a", "d"); got != 0 {
		t.Error(got)
	}
	h.Taken(0, "n")
	h.Drop("b/a")
	if h.Ready("b/a", "d", []string{"n"}) || len(h.Places()) != 0 {
		t.Error("nil hands something over")
	}
	var zero Hand
	zero.Taken(1, "n")
	zero.Drop("b/a")
	if len(zero.Places()) != 0 || zero.Start("b/a", "d") != 1 {
		t.Error("a zero one")
	}
}
