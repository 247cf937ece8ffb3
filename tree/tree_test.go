package tree

import (
	"crypto/sha256"
	"fmt"
	"pantler/api"
	"pantler/objwire"
	"pantler/sha"
	"slices"
	"testing"
)

// leaves are so many leaves.
func leaves(many int) []api.Leaf {
	var l []api.Leaf
	for k := range many {
		l = append(l, api.Leaf{Place: fmt.Sprint("b/", k), Digest: sha.Sum(fmt.Sprint(k))})
	}
	return l
}

func TestSegment(t *testing.T) {
	seen := map[int]int{}
	for k := range 500 {
		place := fmt.Sprint("b/", k)
		if got := Segment(place); got != int(sha256.Sum256([]byte(place))[0])/16 {
			t.Error(place, got)
		}
		seen[Segment(place)]++
	}
	if len(seen) != 16 || Segment("") != 0xe {
		t.Error(seen, Segment(""))
	}
}

func TestLeaves(t *testing.T) {
	o := api.Obj{Ctx: []api.Seen{{Node: "a", Base: 1}}}
	got := Leaves([]api.Item{{Place: "b/z", Obj: o}, {Place: "", Obj: api.Obj{}}})
	if !slices.Equal(got, []api.Leaf{{Place: "b/z", Digest: objwire.Digest(o)}, {Place: "", Digest: objwire.Digest(api.Obj{})}}) {
		t.Error(got)
	}
	if len(Leaves(nil)) != 0 {
		t.Error("leaves of nothing")
	}
}

func TestOfAndRoot(t *testing.T) {
	none := Of(nil)
	if !slices.Equal(none, slices.Repeat([]string{sha.Of(nil)}, 16)) {
		t.Error("of no leaves")
	}
	for _, many := range []int{0, 1, 5, 200} {
		l := leaves(many)
		var want []string
		for segment := range 16 {
			var texts []string
			for _, x := range l {
				if Segment(x.Place) == segment {
					texts = append(texts, x.Place, x.Digest)
				}
			}
			want = append(want, sha.Of(texts))
		}
		if got := Of(l); !slices.Equal(got, want) {
			t.Error(many)
		}
		if got := Root(l); got != sha.Of(want) {
			t.Error(many)
		}
	}
}

func TestRootsTellLeavesApart(t *testing.T) {
	l := leaves(60)
	for k := range l {
		changed := slices.Clone(l)
		changed[k].Digest = sha.Sum("another")
		gone := slices.Delete(slices.Clone(l), k, k+1)
		for _, other := range [][]api.Leaf{changed, gone} {
			if Root(other) == Root(l) {
				t.Error(k, "one root")
			}
			if got := Unlike(Of(l), Of(other)); !slices.Equal(got, []int{Segment(l[k].Place)}) {
				t.Error(k, got)
			}
		}
	}
}

func TestUnlike(t *testing.T) {
	for k, x := range []struct {
		a, b []string
		want []int
	}{{nil, nil, nil}, {[]string{"a", "b"}, []string{"a", "b"}, nil}, {[]string{"a", "b", "c"}, []string{"x", "b", "y"}, []int{0, 2}}, {[]string{"a"}, []string{"a", "", "c"}, []int{1, 2}}, {[]string{"a", "b"}, nil, []int{0, 1}}} {
		if a, b := Unlike(x.a, x.b), Unlike(x.b, x.a); !slices.Equal(a, x.want) || !slices.Equal(b, x.want) {
			t.Error(k, a, b)
		}
	}
}

func TestIn(t *testing.T) {
	l := leaves(100)
	was := slices.Clone(l)
	for k, segments := range [][]int{nil, {3}, {15, 0, 15}, {-1, 16, 99}, {0, 1, 2, 3, 4, 5, 6, 7, 8, 9, 10, 11, 12, 13, 14, 15}} {
		var want []api.Leaf
		for _, x := range l {
			if slices.Contains(segments, Segment(x.Place)) {
				want = append(want, x)
			}
		}
		got := In(l, segments)
		if !slices.Equal(got, want) {
			t.Error(k, got)
		}
		if len(got) > 0 {
			got[0].Place = "changed"
		}
	}
	if !slices.Equal(l, was) {
		t.Error("changed")
	}
}
