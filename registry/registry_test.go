package registry

import (
	"fmt"
	"math/rand/v2"
	"pantler/api"
	"pantler/register"
	"slices"
	"strings"
	"testing"
)

func entry(key string, n int, by, value string) api.Entry {
	return api.Entry{Key: key, Reg: api.Reg{N: n, By: by, Value: value}}
}

// many are so many entries, whose keys begin with a letter.
func many(letter string, n int) []api.Entry {
	var l []api.Entry
	for k := range n {
		l = append(l, entry(fmt.Sprintf("%s%05d", letter, k), 1, "", ""))
	}
	return l
}

func TestCheck(t *testing.T) {
	path := strings.Repeat("p", api.MaxPath)
	for k, l := range [][]api.Entry{nil, {}, {entry("a", 1, "", "")}, {entry("a", 1, "", ""), entry("a/b", 2, "n", "x"), entry("b", 1, "", "")}, {entry(path, 1, "", "")}, {entry("\xff\x00", 1, "", "")}, many("x", 4096)} {
		if e := Check(l); e != api.OK {
			t.Error(k, e)
		}
	}
	for k, l := range [][]api.Entry{{entry("", 1, "", "")}, {entry(path+"p", 1, "", "")}, {entry("b", 1, "", ""), entry("a", 1, "", "")}, {entry("a", 1, "", ""), entry("a", 2, "", "")}, {entry("a", 0, "", "")}, {entry("a", 1, "N", "")}, {entry("a", 1, "", strings.Repeat("v", api.MaxValue+1))}, many("x", 4097)} {
		if e := Check(l); e != api.ErrArg {
			t.Error(k, e)
		}
	}
}

func TestGet(t *testing.T) {
	l := []api.Entry{entry("b", 2, "n", "x"), entry("a", 1, "", "y"), entry("b", 9, "m", "z"), entry("", 1, "", "e")}
	for key, want := range map[string]api.Reg{"b": l[0].Reg, "a": l[1].Reg, "": l[3].Reg, "c": {}} {
		if got := Get(l, key); got != want {
			t.Error(key, got)
		}
	}
	if Get(nil, "a") != (api.Reg{}) {
		t.Error("of nothing")
	}
}

func TestPut(t *testing.T) {
	l := []api.Entry{entry("a", 2, "n", "x"), entry("c", 1, "", "y")}
	for k, x := range []struct {
		put  api.Entry
		want []api.Entry
	}{
		{entry("a", 3, "", ""), []api.Entry{entry("a", 3, "", ""), l[1]}},
		{entry("a", 2, "m", "z"), l},
		{entry("a", 2, "n", "x"), l},
		{entry("a", 2, "n", "y"), []api.Entry{entry("a", 2, "n", "y"), l[1]}},
		{entry("b", 1, "", ""), []api.Entry{l[0], entry("b", 1, "", ""), l[1]}},
		{entry("A", 1, "", ""), []api.Entry{entry("A", 1, "", ""), l[0], l[1]}},
		{entry("d", 1, "", ""), []api.Entry{l[0], l[1], entry("d", 1, "", "")}},
	} {
		if got, e := Put(l, x.put); e != api.OK || !Same(got, x.want) {
			t.Error(k, got, e)
		}
	}
	full := many("x", 4096)
	for k, x := range []struct {
		l   []api.Entry
		put api.Entry
		e   api.Errno
	}{
		{[]api.Entry{entry("a", 0, "", "")}, entry("b", 1, "", ""), api.ErrArg},
		{l, entry("", 1, "", ""), api.ErrArg},
		{l, entry("b", 0, "", ""), api.ErrArg},
		{full, entry("y", 1, "", ""), api.ErrLong},
		{full, entry("y", 0, "", ""), api.ErrArg},
		{full, entry("x00000", 5, "", ""), api.OK},
		{full[1:], entry("y", 1, "", ""), api.OK},
	} {
		if got, e := Put(x.l, x.put); e != x.e || e != api.OK && len(got) > 0 {
			t.Error(k, e)
		}
	}
}

func TestJoin(t *testing.T) {
	a := []api.Entry{entry("a", 2, "n", "x"), entry("c", 1, "", "y"), entry("e", 1, "", "")}
	b := []api.Entry{entry("a", 1, "z", "z"), entry("b", 1, "", ""), entry("c", 4, "", ""), entry("f", 1, "", "")}
	want := []api.Entry{a[0], b[1], b[2], a[2], b[3]}
	for _, x := range []struct{ a, b, want []api.Entry }{{a, b, want}, {b, a, want}, {a, nil, a}, {nil, b, b}, {nil, nil, nil}, {a, a, a}} {
		if got, e := Join(x.a, x.b); e != api.OK || !Same(got, x.want) {
			t.Error(got, e)
		}
	}
	bad := []api.Entry{entry("", 1, "", "")}
	for k, x := range []struct {
		a, b []api.Entry
		e    api.Errno
	}{{bad, a, api.ErrArg}, {a, bad, api.ErrArg}, {many("x", 4096), many("y", 1), api.ErrLong}, {many("y", 1), many("x", 4096), api.ErrLong}, {many("x", 4096), bad, api.ErrArg}, {many("x", 4096), many("x", 4096), api.OK}, {many("x", 2048), many("y", 2048), api.OK}} {
		if got, e := Join(x.a, x.b); e != x.e || e != api.OK && len(got) > 0 {
			t.Error(k, e)
		}
	}
}

func TestSet(t *testing.T) {
	l := []api.Entry{entry("a", 2, "z", "x"), entry("b", api.MaxVersion, "", "y")}
	path := strings.Repeat("p", api.MaxPath)
	for k, x := range []struct {
		l              []api.Entry
		by, key, value string
		want           api.Entry
		e              api.Errno
	}{
		{l, "n", "a", "v", entry("a", 3, "n", "v"), api.OK},
		{l, "n", "c", "", entry("c", 1, "n", ""), api.OK},
		{nil, "n", path, "v", entry(path, 1, "n", "v"), api.OK},
		{l, "n", "b", "v", api.Entry{}, api.ErrLong},
		{l, "", "b", "v", api.Entry{}, api.ErrArg},
		{l, "", "a", "v", api.Entry{}, api.ErrArg},
		{l, "n", "", "v", api.Entry{}, api.ErrArg},
		{l, "n", path + "p", "v", api.Entry{}, api.ErrArg},
		{l, "n", "a", strings.Repeat("v", api.MaxValue+1), api.Entry{}, api.ErrArg},
		{[]api.Entry{l[1], l[0]}, "n", "c", "v", api.Entry{}, api.ErrArg},
	} {
		if got, e := Set(x.l, x.by, x.key, x.value); e != x.e || got != x.want {
			t.Error(k, got, e)
		}
	}
	x, _ := Set(l, "n", "a", "v")
	if all, e := Put(l, x); e != api.OK || Get(all, "a") != x.Reg {
		t.Error("what is set is not what a key has then", all, e)
	}
}

func TestUnder(t *testing.T) {
	l := []api.Entry{entry("b/a", 1, "", ""), entry("a", 1, "", ""), entry("a/b", 1, "", ""), entry("ab", 1, "", ""), entry("a/", 1, "", ""), entry("a/b/c", 1, "", ""), entry("/x", 1, "", "")}
	for path, want := range map[string][]api.Entry{"a": {l[2], l[4], l[5]}, "a/b": {l[5]}, "b": {l[0]}, "": {l[6]}, "c": nil, "ab": nil} {
		if got := Under(l, path); !Same(got, want) {
			t.Error(path, got)
		}
	}
}

func TestNews(t *testing.T) {
	a := []api.Entry{entry("c", 1, "", ""), entry("a", 2, "n", "x"), entry("b", 3, "", ""), entry("z", 0, "", "")}
	b := []api.Entry{entry("a", 2, "m", "x"), entry("b", 3, "", ""), entry("a", 9, "", ""), entry("y", 1, "", "")}
	if got := News(a, b); !Same(got, a[:2]) {
		t.Error(got)
	}
	if got := News(a, nil); !Same(got, a[:3]) {
		t.Error(got)
	}
	if len(News(nil, a)) != 0 || len(News(a[:3], a[:3])) != 0 {
		t.Error("old news")
	}
}

func TestSame(t *testing.T) {
	a := []api.Entry{entry("a", 1, "n", "x")}
	if !Same(a, slices.Clone(a)) || !Same(nil, []api.Entry{}) || Same(a, nil) || Same(nil, a) {
		t.Error("lists")
	}
	for _, x := range []api.Entry{entry("b", 1, "n", "x"), entry("a", 2, "n", "x"), entry("a", 1, "m", "x"), entry("a", 1, "n", "y")} {
		if Same(a, []api.Entry{x}) {
			t.Error(x)
		}
	}
}

// some are a few entries that may be.
func some(r *rand.Rand) []api.Entry {
	var l []api.Entry
	for range r.IntN(6) {
		l, _ = Put(l, entry(string(rune('a'+r.IntN(5))), 1+r.IntN(3), "", string(rune('a'+r.IntN(3)))))
	}
	return l
}

func TestJoinDoesNotHangOnTheOrder(t *testing.T) {
	r := rand.New(rand.NewPCG(7, 8))
	join := func(a, b []api.Entry) []api.Entry {
		l, e := Join(a, b)
		if e != api.OK || Check(l) != api.OK {
			t.Fatal(a, b, l, e)
		}
		return l
	}
	for range 2000 {
		a, b, c := some(r), some(r), some(r)
		ab := join(a, b)
		if !Same(ab, join(b, a)) || !Same(ab, join(ab, a)) || !Same(join(ab, c), join(a, join(b, c))) {
			t.Fatal(a, b, c)
		}
		if !Same(join(News(a, b), b), ab) || len(News(a, ab)) > 0 {
			t.Fatal("news", a, b)
		}
		for _, x := range ab {
			if x.Reg != register.Join(Get(a, x.Key), Get(b, x.Key)) {
				t.Fatal(x, a, b)
			}
		}
	}
}

func TestAnswersAreNewMemory(t *testing.T) {
	l := []api.Entry{entry("a/a", 1, "", ""), entry("a/b", 1, "", ""), entry("a/c", 1, "", "")}
	was := slices.Clone(l)
	joined, _ := Join(l[:2], nil)
	put, _ := Put(l[:2], entry("b", 1, "", ""))
	for _, got := range [][]api.Entry{joined, put, Under(l[:2], "a"), News(l[:2], nil)} {
		got[0].Key = "changed"
		_ = append(got, api.Entry{})
	}
	if !Same(l, was) {
		t.Error(l)
	}
}
