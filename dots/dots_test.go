package dots

import (
	"math/rand/v2"
	"pantler/api"
	"slices"
	"testing"
)

// seen is a Seen, written shortly.
func seen(node string, base int, more ...int) api.Seen {
	return api.Seen{Node: node, Base: base, More: more}
}

// gaps are so many numbers from one on, none right behind another one.
func gaps(from, many int) []int {
	var l []int
	for k := range many {
		l = append(l, from+2*k)
	}
	return l
}

func TestCheck(t *testing.T) {
	for k, c := range [][]api.Seen{
		nil,
		{},
		{seen("a", 1)},
		{seen("a", 0, 2)},
		{seen("a", 3, 5, 6, 9), seen("b", api.MaxDot)},
		{seen("a", api.MaxDot-2, api.MaxDot)},
		{seen("a", 0, gaps(2, 4096)...)},
		{seen("a", 0, gaps(2, 4000)...), seen("b", 1, gaps(3, 96)...)},
		{seen("abcdefghijklmnop", 1)},
	} {
		if e := Check(c); e != api.OK {
			t.Error(k, e)
		}
	}
	for k, c := range [][]api.Seen{
		{seen("", 1)},
		{seen("A", 1)},
		{seen("abcdefghijklmnopq", 1)},
		{seen("b", 1), seen("a", 1)},
		{seen("a", 1), seen("a", 2)},
		{seen("a", 0)},
		{seen("a", -1)},
		{seen("a", -1, 5)},
		{seen("a", api.MaxDot+1)},
		{seen("a", 3, 4)},
		{seen("a", 3, 3)},
		{seen("a", 0, 1)},
		{seen("a", 0, 0)},
		{seen("a", 3, 6, 6)},
		{seen("a", 3, 7, 6)},
		{seen("a", 3, api.MaxDot+1)},
		{seen("a", api.MaxDot, api.MaxDot+2)},
		{seen("a", 0, gaps(2, 4097)...)},
		{seen("a", 0, gaps(2, 4000)...), seen("b", 1, gaps(3, 97)...)},
	} {
		if e := Check(c); e != api.ErrArg {
			t.Error(k, e)
		}
	}
}

func TestHas(t *testing.T) {
	c := []api.Seen{seen("a", 3, 5, 9), seen("b", 0, 2)}
	for d, want := range map[api.Dot]bool{{Node: "a", N: 1}: true, {Node: "a", N: 3}: true, {Node: "a", N: 4}: false, {Node: "a", N: 5}: true, {Node: "a", N: 9}: true, {Node: "a", N: 10}: false, {Node: "a", N: 0}: false, {Node: "a", N: -1}: false, {Node: "b", N: 1}: false, {Node: "b", N: 2}: true, {Node: "c", N: 1}: false, {Node: "", N: 1}: false} {
		if Has(c, d) != want {
			t.Error(d)
		}
	}
	// Contexts that may not be are asked Seen by Seen, too.
	odd := []api.Seen{seen("b", 1), seen("a", 2), seen("b", 0, 7, -4, 3, 0), seen("b", 4)}
	for n, want := range map[int]bool{-4: true, 0: true, 1: true, 3: true, 4: true, 5: false, 7: true, 8: false, -1: false} {
		if Has(odd, api.Dot{Node: "b", N: n}) != want {
			t.Error(n)
		}
	}
	if Has(nil, api.Dot{Node: "a", N: 1}) {
		t.Error("nothing knows something")
	}
}

func TestTop(t *testing.T) {
	c := []api.Seen{seen("b", 1), seen("a", 2), seen("b", 0, 7, -4, 3), seen("b", 4), seen("c", -5, -2)}
	for node, want := range map[string]int{"a": 2, "b": 7, "c": 0, "d": 0, "": 0} {
		if got := Top(c, node); got != want {
			t.Error(node, got)
		}
	}
}

func TestSame(t *testing.T) {
	a := []api.Seen{seen("a", 3, 5), seen("b", 1)}
	if !Same(a, []api.Seen{seen("a", 3, 5), seen("b", 1, []int{}...)}) || !Same(nil, []api.Seen{}) {
		t.Error("the same are not")
	}
	for k, b := range [][]api.Seen{nil, a[:1], {seen("a", 3, 5), seen("c", 1)}, {seen("a", 3, 5), seen("b", 2)}, {seen("a", 3, 6), seen("b", 1)}, {seen("a", 3), seen("b", 1)}, {seen("b", 1), seen("a", 3, 5)}, append(slices.Clone(a), seen("c", 1))} {
		if Same(a, b) || Same(b, a) {
			t.Error(k)
		}
	}
}

func TestAdd(t *testing.T) {
	for k, x := range []struct {
		c    []api.Seen
		d    api.Dot
		want []api.Seen
	}{
		{nil, api.Dot{Node: "a", N: 1}, []api.Seen{seen("a", 1)}},
		{nil, api.Dot{Node: "a", N: 2}, []api.Seen{seen("a", 0, 2)}},
		{[]api.Seen{seen("a", 1, 3)}, api.Dot{Node: "a", N: 2}, []api.Seen{seen("a", 3)}},
		{[]api.Seen{seen("a", 0, 2, 3, 5)}, api.Dot{Node: "a", N: 1}, []api.Seen{seen("a", 3, 5)}},
		{[]api.Seen{seen("a", 3, 5)}, api.Dot{Node: "a", N: 2}, []api.Seen{seen("a", 3, 5)}},
		{[]api.Seen{seen("a", 3, 5)}, api.Dot{Node: "a", N: 5}, []api.Seen{seen("a", 3, 5)}},
		{[]api.Seen{seen("a", 3, 5, 9)}, api.Dot{Node: "a", N: 7}, []api.Seen{seen("a", 3, 5, 7, 9)}},
		{[]api.Seen{seen("b", 1), seen("d", 1)}, api.Dot{Node: "c", N: 1}, []api.Seen{seen("b", 1), seen("c", 1), seen("d", 1)}},
		{[]api.Seen{seen("b", 1)}, api.Dot{Node: "a", N: 3}, []api.Seen{seen("a", 0, 3), seen("b", 1)}},
		{[]api.Seen{seen("b", 1)}, api.Dot{Node: "c", N: 3}, []api.Seen{seen("b", 1), seen("c", 0, 3)}},
		{[]api.Seen{seen("a", api.MaxDot-1)}, api.Dot{Node: "a", N: api.MaxDot}, []api.Seen{seen("a", api.MaxDot)}},
	} {
		if got, e := Add(x.c, x.d); e != api.OK || !Same(got, x.want) {
			t.Error(k, got, e)
		}
	}
}

func TestAddRefuses(t *testing.T) {
	full := []api.Seen{seen("a", 0, gaps(2, 4096)...)}
	for k, x := range []struct {
		c []api.Seen
		d api.Dot
		e api.Errno
	}{
		{[]api.Seen{seen("a", 0)}, api.Dot{Node: "a", N: 1}, api.ErrArg},
		{nil, api.Dot{Node: "A", N: 1}, api.ErrArg},
		{nil, api.Dot{Node: "", N: 1}, api.ErrArg},
		{nil, api.Dot{Node: "a", N: 0}, api.ErrArg},
		{nil, api.Dot{Node: "a", N: -1}, api.ErrArg},
		{nil, api.Dot{Node: "a", N: api.MaxDot + 1}, api.ErrArg},
		{full, api.Dot{Node: "a", N: 0}, api.ErrArg},
		{full, api.Dot{Node: "a", N: 10000}, api.ErrLong},
		{full, api.Dot{Node: "b", N: 2}, api.ErrLong},
		{full, api.Dot{Node: "a", N: 3}, api.ErrLong},
	} {
		if got, e := Add(x.c, x.d); e != x.e || len(got) != 0 {
			t.Error(k, e)
		}
	}
	for k, d := range []api.Dot{{Node: "a", N: 2}, {Node: "a", N: 1}, {Node: "b", N: 1}} {
		if got, e := Add(full, d); e != api.OK || !Has(got, d) || Check(got) != api.OK {
			t.Error(k, e)
		}
	}
}

func TestJoin(t *testing.T) {
	for k, x := range []struct{ a, b, want []api.Seen }{
		{nil, nil, nil},
		{[]api.Seen{seen("a", 1)}, nil, []api.Seen{seen("a", 1)}},
		{[]api.Seen{seen("a", 1)}, []api.Seen{seen("b", 2)}, []api.Seen{seen("a", 1), seen("b", 2)}},
		{[]api.Seen{seen("a", 3)}, []api.Seen{seen("a", 1, 4)}, []api.Seen{seen("a", 4)}},
		{[]api.Seen{seen("a", 1, 3, 5)}, []api.Seen{seen("a", 0, 2, 4, 8)}, []api.Seen{seen("a", 5, 8)}},
		{[]api.Seen{seen("a", 7)}, []api.Seen{seen("a", 1, 3, 5)}, []api.Seen{seen("a", 7)}},
		{[]api.Seen{seen("a", 1, 9), seen("c", 2)}, []api.Seen{seen("a", 0, 9), seen("b", 1), seen("c", 0, 7)}, []api.Seen{seen("a", 1, 9), seen("b", 1), seen("c", 2, 7)}},
	} {
		for _, y := range [][2][]api.Seen{{x.a, x.b}, {x.b, x.a}} {
			if got, e := Join(y[0], y[1]); e != api.OK || !Same(got, x.want) {
				t.Error(k, got, e)
			}
		}
	}
	full, more := []api.Seen{seen("a", 0, gaps(2, 4096)...)}, []api.Seen{seen("b", 0, 2)}
	bad := []api.Seen{seen("a", -1)}
	for k, x := range []struct {
		a, b []api.Seen
		e    api.Errno
	}{{full, more, api.ErrLong}, {more, full, api.ErrLong}, {bad, full, api.ErrArg}, {full, bad, api.ErrArg}, {full, full, api.OK}, {full, []api.Seen{seen("b", 9)}, api.OK}} {
		if got, e := Join(x.a, x.b); e != x.e || e != api.OK && len(got) != 0 {
			t.Error(k, e)
		}
	}
}

func TestCovers(t *testing.T) {
	a := []api.Seen{seen("a", 3, 5), seen("b", 1)}
	for k, b := range [][]api.Seen{nil, a, {seen("a", 3)}, {seen("a", 0, 2, 5)}, {seen("b", 1)}, {seen("a", 1, 3, 5)}} {
		if !Covers(a, b) {
			t.Error("not covered", k)
		}
	}
	for k, b := range [][]api.Seen{{seen("c", 1)}, {seen("a", 4)}, {seen("a", 5)}, {seen("a", 3, 6)}, {seen("a", 0, 4)}, {seen("b", 2)}, {seen("a", 0)}, {seen("B", 1)}} {
		if Covers(a, b) {
			t.Error("covered", k)
		}
	}
	if Covers([]api.Seen{seen("a", 0)}, nil) || !Covers(nil, nil) {
		t.Error("only contexts that may be cover")
	}
}

// some is a context of a few dots.
func some(r *rand.Rand) []api.Seen {
	var c []api.Seen
	for range r.IntN(8) {
		c, _ = Add(c, api.Dot{Node: string(rune('a' + r.IntN(3))), N: 1 + r.IntN(7)})
	}
	return c
}

// known are the numbers of a few dots that a context knows.
func known(c []api.Seen) map[api.Dot]bool {
	all := map[api.Dot]bool{}
	for k := range 24 {
		if d := (api.Dot{Node: string(rune('a' + k/8)), N: 1 + k%8}); Has(c, d) {
			all[d] = true
		}
	}
	return all
}

func TestJoinIsAJoin(t *testing.T) {
	r := rand.New(rand.NewPCG(1, 2))
	join := func(a, b []api.Seen) []api.Seen {
		c, e := Join(a, b)
		if e != api.OK || Check(c) != api.OK {
			t.Fatal(a, b, c, e)
		}
		return c
	}
	for range 3000 {
		a, b, c := some(r), some(r), some(r)
		ab := join(a, b)
		if !Same(ab, join(b, a)) || !Same(ab, join(ab, b)) || !Same(join(ab, c), join(a, join(b, c))) {
			t.Fatal("order", a, b, c)
		}
		all := known(ab)
		for d := range all {
			if !Has(a, d) && !Has(b, d) {
				t.Fatal("known to nobody", d, a, b)
			}
		}
		if !Covers(ab, a) || !Covers(ab, b) || Covers(c, a) && Covers(c, b) != Covers(c, ab) {
			t.Fatal("covers", a, b, c)
		}
		covers := true
		for d := range known(b) {
			covers = covers && Has(a, d)
		}
		if Covers(a, b) != covers || covers && Covers(b, a) && !Same(a, b) {
			t.Fatal("covers", a, b)
		}
	}
}

func TestAnswersAreNewMemory(t *testing.T) {
	more := []int{5, 7, 99}
	c := []api.Seen{{Node: "a", Base: 3, More: more[:2]}, seen("b", 1, 4), seen("x", 9)}
	added, _ := Add(c[:2], api.Dot{Node: "a", N: 9})
	other, _ := Add(c[:2], api.Dot{Node: "c", N: 1})
	joined, _ := Join(c[:2], nil)
	for _, l := range [][]api.Seen{added, other, joined} {
		for k := range l {
			l[k].Node = "z"
			for m := range l[k].More {
				l[k].More[m] = -1
			}
			_ = append(l[k].More, -2)
		}
		_ = append(l, seen("y", 1))
	}
	if !Same(c, []api.Seen{seen("a", 3, 5, 7), seen("b", 1, 4), seen("x", 9)}) || more[2] != 99 {
		t.Error(c, more)
	}
}
