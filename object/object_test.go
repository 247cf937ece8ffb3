package object

import (
	"fmt"
	"math/rand/v2"
	"pantler/api"
	"pantler/dots"
	"slices"
	"strings"
	"testing"
)

func seen(node string, base int, more ...int) api.Seen {
	return api.Seen{Node: node, Base: base, More: more}
}

func sib(node string, n int, value string, time int) api.Sib {
	return api.Sib{Dot: api.Dot{Node: node, N: n}, Value: value, Time: time}
}

func dead(node string, n, time int) api.Sib {
	return api.Sib{Dot: api.Dot{Node: node, N: n}, Gone: true, Time: time}
}

func obj(ctx []api.Seen, sibs ...api.Sib) api.Obj { return api.Obj{Ctx: ctx, Sibs: sibs} }

// must is an object that was made without an error.
func must(t *testing.T) func(o api.Obj, e api.Errno) api.Obj {
	return func(o api.Obj, e api.Errno) api.Obj {
		t.Helper()
		if e != api.OK || Check(o) != api.OK {
			t.Fatal(o, e)
		}
		return o
	}
}

// empty tells whether an object is the zero one.
func empty(o api.Obj) bool { return len(o.Ctx) == 0 && len(o.Sibs) == 0 }

func gaps(from, many int) []int {
	var l []int
	for k := range many {
		l = append(l, from+2*k)
	}
	return l
}

func TestCheck(t *testing.T) {
	ctx := []api.Seen{seen("a", 3, 5), seen("b", 2)}
	for k, o := range []api.Obj{
		{},
		obj(ctx),
		obj(ctx, sib("a", 1, "", 0)),
		obj(ctx, sib("a", 1, "x", 5), sib("a", 5, "y", 1), sib("b", 2, "z", api.MaxTime)),
		obj(ctx, dead("b", 1, 4)),
		obj(ctx, sib("b", 1, strings.Repeat("v", api.MaxValue), 0)),
	} {
		if e := Check(o); e != api.OK {
			t.Error(k, e)
		}
	}
	withValue := dead("a", 1, 0)
	withValue.Value = "x"
	for k, o := range []api.Obj{
		obj([]api.Seen{seen("a", 0)}),
		obj([]api.Seen{seen("a", 4, 5)}, sib("a", 1, "", 0)),
		obj(ctx, sib("a", 4, "", 0)),
		obj(ctx, sib("c", 1, "", 0)),
		obj(ctx, sib("a", 0, "", 0)),
		obj(ctx, sib("a", 2, "", 0), sib("a", 1, "", 0)),
		obj(ctx, sib("b", 1, "", 0), sib("a", 1, "", 0)),
		obj(ctx, sib("a", 1, "", 0), sib("a", 1, "x", 0)),
		obj(ctx, sib("a", 1, strings.Repeat("v", api.MaxValue+1), 0)),
		obj(ctx, sib("a", 1, "", -1)),
		obj(ctx, sib("a", 1, "", api.MaxTime+1)),
		obj(ctx, withValue),
		obj(nil, sib("a", 1, "", 0)),
	} {
		if e := Check(o); e != api.ErrArg {
			t.Error(k, e)
		}
	}
}

func TestNew(t *testing.T) {
	for k, x := range []struct {
		ctx  []api.Seen
		s    api.Sib
		want []api.Seen
	}{
		{nil, sib("a", 1, "x", 3), []api.Seen{seen("a", 1)}},
		{[]api.Seen{seen("a", 1), seen("b", 2)}, sib("a", 2, "x", 3), []api.Seen{seen("a", 2), seen("b", 2)}},
		{[]api.Seen{seen("b", 2)}, dead("a", 4, 3), []api.Seen{seen("a", 0, 4), seen("b", 2)}},
	} {
		o, e := New(x.ctx, x.s)
		if e != api.OK || !dots.Same(o.Ctx, x.want) || !slices.Equal(o.Sibs, []api.Sib{x.s}) {
			t.Error(k, o, e)
		}
	}
	withValue := dead("a", 1, 0)
	withValue.Value = "x"
	full := []api.Seen{seen("a", 0, gaps(2, 4096)...)}
	for k, x := range []struct {
		ctx []api.Seen
		s   api.Sib
		e   api.Errno
	}{
		{[]api.Seen{seen("a", 0)}, sib("b", 1, "", 0), api.ErrArg},
		{[]api.Seen{seen("a", 2)}, sib("a", 2, "", 0), api.ErrArg},
		{[]api.Seen{seen("a", 0, 3)}, sib("a", 3, "", 0), api.ErrArg},
		{nil, sib("A", 1, "", 0), api.ErrArg},
		{nil, sib("a", 0, "", 0), api.ErrArg},
		{nil, sib("a", api.MaxDot+1, "", 0), api.ErrArg},
		{nil, sib("a", 1, strings.Repeat("v", api.MaxValue+1), 0), api.ErrArg},
		{nil, sib("a", 1, "", -1), api.ErrArg},
		{nil, sib("a", 1, "", api.MaxTime+1), api.ErrArg},
		{nil, withValue, api.ErrArg},
		{full, sib("b", 2, "", 0), api.ErrLong},
		{full, sib("b", 2, "", -1), api.ErrArg},
		{full, sib("b", 1, "", 0), api.OK},
	} {
		if o, e := New(x.ctx, x.s); e != x.e || e != api.OK && !empty(o) {
			t.Error(k, o, e)
		}
	}
}

func TestMerge(t *testing.T) {
	make := must(t)
	a := make(New(nil, sib("a", 1, "x", 1)))
	b := make(New(nil, sib("b", 1, "y", 2)))
	two := make(Merge(a, b))
	if !Same(two, obj([]api.Seen{seen("a", 1), seen("b", 1)}, a.Sibs[0], b.Sibs[0])) {
		t.Error("two writes that knew nothing", two)
	}
	third := make(New(two.Ctx, sib("a", 2, "z", 3)))
	for _, o := range []api.Obj{make(Merge(two, third)), make(Merge(third, a)), make(Merge(b, third))} {
		if !Same(o, third) {
			t.Error("a third one that knew both", o)
		}
	}
	half := make(New(a.Ctx, sib("a", 2, "z", 3)))
	if o := make(Merge(half, two)); !Same(o, obj([]api.Seen{seen("a", 2), seen("b", 1)}, half.Sibs[0], b.Sibs[0])) {
		t.Error("a third one that knew one", o)
	}
	if o := make(Merge(api.Obj{}, a)); !Same(o, a) {
		t.Error("nothing merged", o)
	}
}

func TestMergeKeepsTheGreaterOfOneDot(t *testing.T) {
	ctx := []api.Seen{seen("a", 1)}
	rising := []api.Sib{sib("a", 1, "z", 1), sib("a", 1, "", 2), dead("a", 1, 2), sib("a", 1, "a", 2), sib("a", 1, "ab", 2), sib("a", 1, "b", 2), sib("a", 1, "", 3)}
	for k, x := range rising {
		for m, y := range rising {
			o, e := Merge(obj(ctx, x), obj(ctx, y))
			if e != api.OK || !Same(o, obj(ctx, rising[max(k, m)])) {
				t.Error(k, m, o, e)
			}
		}
	}
}

func TestMergeRefuses(t *testing.T) {
	full := obj([]api.Seen{seen("a", 0, gaps(2, 4096)...)})
	more := obj([]api.Seen{seen("b", 0, 2)})
	bad := obj([]api.Seen{seen("a", 0)})
	for k, x := range []struct {
		a, b api.Obj
		e    api.Errno
	}{{full, more, api.ErrLong}, {more, full, api.ErrLong}, {bad, full, api.ErrArg}, {full, bad, api.ErrArg}, {full, full, api.OK}} {
		if o, e := Merge(x.a, x.b); e != x.e || e != api.OK && !empty(o) {
			t.Error(k, e)
		}
	}
	if Covers(bad, bad) || Covers(full, more) || Covers(full, bad) || Covers(bad, api.Obj{}) {
		t.Error("what can't be merged is covered")
	}
}

func TestCovers(t *testing.T) {
	make := must(t)
	a := make(New(nil, sib("a", 1, "x", 1)))
	b := make(New(nil, sib("b", 1, "y", 2)))
	two := make(Merge(a, b))
	third := make(New(two.Ctx, sib("a", 2, "z", 3)))
	for k, x := range [][2]api.Obj{{a, a}, {a, {}}, {two, a}, {two, b}, {third, two}, {third, a}, {obj(two.Ctx), two}} {
		if !Covers(x[0], x[1]) {
			t.Error("not covered", k)
		}
	}
	for k, x := range [][2]api.Obj{{a, b}, {{}, a}, {a, two}, {two, third}, {two, obj(two.Ctx)}, {a, obj(a.Ctx, sib("a", 1, "z", 1))}} {
		if Covers(x[0], x[1]) {
			t.Error("covered", k)
		}
	}
}

func TestReapAndSize(t *testing.T) {
	ctx := []api.Seen{seen("a", 3, 5, 7), seen("b", 1)}
	o := obj(ctx, dead("a", 1, 9), sib("a", 2, "abc", 1), dead("b", 1, 0))
	r, e := Reap(o)
	if e != api.OK || !Same(r, obj(ctx, sib("a", 2, "abc", 1))) {
		t.Error(r, e)
	}
	if r, e := Reap(obj(nil, dead("a", 1, 0))); e != api.ErrArg || !empty(r) {
		t.Error(r, e)
	}
	for want, x := range map[int]api.Obj{4*16 + 3*64 + 3: o, 0: {}, 16: obj([]api.Seen{seen("", -1)}), 128 + 5: obj(nil, sib("", 0, "ab", 0), sib("x", 1, "abc", 0))} {
		if Size(x) != want {
			t.Error(Size(x), want)
		}
	}
}

func TestSame(t *testing.T) {
	o := obj([]api.Seen{seen("a", 3)}, sib("a", 1, "x", 1))
	if !Same(o, obj([]api.Seen{seen("a", 3, []int{}...)}, sib("a", 1, "x", 1))) || !Same(api.Obj{}, obj([]api.Seen{}, []api.Sib{}...)) {
		t.Error("the same are not")
	}
	for k, x := range []api.Obj{{}, obj(o.Ctx), obj(nil, o.Sibs...), obj([]api.Seen{seen("a", 2)}, o.Sibs...), obj(o.Ctx, sib("a", 2, "x", 1)), obj(o.Ctx, sib("b", 1, "x", 1)), obj(o.Ctx, sib("a", 1, "y", 1)), obj(o.Ctx, sib("a", 1, "x", 2)), obj(o.Ctx, dead("a", 1, 1)), obj(o.Ctx, o.Sibs[0], o.Sibs[0])} {
		if Same(o, x) || Same(x, o) {
			t.Error(k)
		}
	}
}

// story are objects that come from writes by Merge and Reap, and what each write's context knew.
func story(t *testing.T, r *rand.Rand) ([]api.Obj, map[api.Dot][]api.Seen) {
	make := must(t)
	l := []api.Obj{{}, {}, {}}
	knew := map[api.Dot][]api.Seen{}
	for k := range 12 {
		at := r.IntN(3)
		switch r.IntN(4) {
		case 0, 1:
			from, n := l[r.IntN(3)].Ctx, 1+k
			s := sib(string(rune('a'+at)), n, fmt.Sprint(k), r.IntN(3))
			if r.IntN(3) == 0 {
				s = dead(s.Dot.Node, n, s.Time)
			}
			knew[s.Dot] = from
			l[at] = make(Merge(l[at], make(New(from, s))))
		case 2:
			l[at] = make(Merge(l[at], l[r.IntN(3)]))
		default:
			l[at] = make(Reap(l[at]))
		}
	}
	return l, knew
}

func TestMergeDoesNotHangOnTheOrder(t *testing.T) {
	r := rand.New(rand.NewPCG(3, 4))
	make := must(t)
	for range 1500 {
		l, knew := story(t, r)
		a, b, c := l[0], l[1], l[2]
		ab := make(Merge(a, b))
		if !Same(ab, make(Merge(b, a))) || !Same(ab, make(Merge(ab, b))) || !Covers(ab, a) || !Covers(ab, b) {
			t.Fatal(a, b)
		}
		all := make(Merge(ab, c))
		if !Same(all, make(Merge(a, make(Merge(b, c))))) {
			t.Fatal(a, b, c)
		}
		for _, o := range append(l, ab, all) {
			for _, s := range o.Sibs {
				for d, ctx := range knew {
					if dots.Has(o.Ctx, d) && dots.Has(ctx, s.Dot) {
						t.Fatal("replaced, but there", s, d, o)
					}
				}
			}
		}
	}
}

func TestAnswersAreNewMemory(t *testing.T) {
	a := obj([]api.Seen{seen("a", 1, 3), seen("b", 1)}, sib("a", 1, "x", 1), dead("b", 1, 2))
	room := a.Sibs[:1]
	merged, _ := Merge(a, api.Obj{})
	reaped, _ := Reap(a)
	made, _ := New(a.Ctx, sib("c", 1, "", 0))
	half, _ := Merge(obj(a.Ctx, room...), a)
	for _, o := range []api.Obj{merged, reaped, made, half} {
		o.Ctx[0].More[0] = 77
		o.Ctx[0].Node = "z"
		o.Sibs[0].Value = "changed"
		_ = append(o.Sibs, api.Sib{})
	}
	if !Same(a, obj([]api.Seen{seen("a", 1, 3), seen("b", 1)}, sib("a", 1, "x", 1), dead("b", 1, 2))) {
		t.Error(a)
	}
}
