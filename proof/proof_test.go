package proof

import (
	"crypto/sha256"
	"fmt"
	"math"
	"math/rand/v2"
	"pantler/api"
	"pantler/sha"
	"slices"
	"testing"
)

// leaves are so many leaves.
func leaves(many int) []api.Leaf {
	var l []api.Leaf
	for k := range many {
		l = append(l, api.Leaf{Place: fmt.Sprint("b/", k), Digest: sha.Sum(fmt.Sprint(k))})
	}
	return l
}

func TestBucketAndIn(t *testing.T) {
	l := leaves(400)
	seen := map[int]int{}
	for _, x := range l {
		want := int(sha256.Sum256([]byte(x.Place))[0]) / 4
		if got := Bucket(x.Place); got != want {
			t.Error(x.Place, got)
		}
		seen[want]++
	}
	sum := 0
	for bucket := range 64 {
		own := In(l, bucket)
		for _, x := range own {
			if Bucket(x.Place) != bucket {
				t.Error(x, bucket)
			}
		}
		if !slices.IsSortedFunc(own, func(a, b api.Leaf) int { return slices.Index(l, a) - slices.Index(l, b) }) || len(own) != seen[bucket] {
			t.Error(own)
		}
		sum += len(own)
	}
	if sum != len(l) || len(In(l, -1))+len(In(l, 64))+len(In(nil, 3)) != 0 {
		t.Error(sum)
	}
	In(l, Bucket("b/0"))[0].Place = "changed"
	if l[0].Place != "b/0" {
		t.Error("changed")
	}
}

func TestHashes(t *testing.T) {
	for _, many := range []int{0, 1, 300} {
		l := leaves(many)
		x := Build(l)
		for bucket := range 64 {
			var texts []string
			for _, y := range In(l, bucket) {
				texts = append(texts, y.Place, y.Digest)
			}
			if x.At(6, bucket) != sha.Of(texts) {
				t.Error(many, bucket)
			}
		}
		for level := range 6 {
			for k := range 1 << level {
				if x.At(level, k) != sha.Of([]string{x.At(level+1, 2*k), x.At(level+1, 2*k+1)}) {
					t.Error(many, level, k)
				}
			}
			if x.At(level, 1<<level) != "" || x.At(level, -1) != "" {
				t.Error("no such hash", level)
			}
		}
		if x.Root() != x.At(0, 0) || len(x.Root()) != 32 || x.At(7, 0) != "" || x.At(-1, 0) != "" || x.At(math.MinInt, math.MaxInt) != "" || x.At(6, 64) != "" {
			t.Error("root", many)
		}
	}
}

func TestUnlike(t *testing.T) {
	l := leaves(500)
	a := Build(l)
	if got, pairs := Unlike(a, Build(l)); len(got) != 0 || pairs != 1 {
		t.Error(got, pairs)
	}
	r := rand.New(rand.NewPCG(57, 58))
	for range 200 {
		other := slices.Clone(l)
		changed := map[int]bool{}
		for range r.IntN(8) {
			k := r.IntN(len(other))
			changed[Bucket(other[k].Place)] = true
			if r.IntN(2) == 0 {
				other[k].Digest += "x"
			} else {
				other = slices.Delete(other, k, k+1)
			}
		}
		got, pairs := Unlike(a, Build(other))
		if !slices.IsSorted(got) || len(got) != len(changed) || pairs > 1+12*len(got) {
			t.Fatal(got, changed, pairs)
		}
		for _, bucket := range got {
			if !changed[bucket] {
				t.Fatal(got, changed)
			}
		}
	}
	if got, pairs := Unlike(Build(nil), Build(l)); len(got) != 64 || pairs != 127 {
		t.Error(got, pairs)
	}
	// One bucket: all on its way, and what is beside it.
	one := slices.Clone(l)
	one[0].Digest = ""
	if got, pairs := Unlike(Build(one), a); len(got) != 1 || pairs != 13 {
		t.Error(got, pairs)
	}
}

func TestWhatIsProvedIsChecked(t *testing.T) {
	l := leaves(200)
	x := Build(l)
	for bucket := range 64 {
		own, beside := In(l, bucket), x.Prove(bucket)
		if len(beside) != 6 || beside[0] != x.At(6, bucket^1) || beside[5] != x.At(1, bucket/32^1) {
			t.Fatal(bucket)
		}
		if !Check(x.Root(), bucket, own, beside) {
			t.Error("not checked", bucket)
		}
		others := [][]api.Leaf{append(slices.Clone(own), api.Leaf{Place: "b/x"}), {{Place: "b/x", Digest: "d"}}, append(slices.Clone(own), In(l, bucket^1)...)}
		if len(own) > 0 {
			changed := slices.Clone(own)
			changed[0].Digest = "x"
			others = append(others, own[1:], changed)
		}
		if len(own) > 1 {
			turned := slices.Clone(own)
			slices.Reverse(turned)
			others = append(others, turned)
		}
		for k, other := range others {
			if !slices.Equal(other, own) && Check(x.Root(), bucket, other, beside) {
				t.Error("other leaves", bucket, k)
			}
		}
		if Check(x.Root(), bucket^1, own, beside) && x.At(6, bucket) != x.At(6, bucket^1) || Check("", bucket, own, beside) || Check(x.Root(), bucket, own, beside[:5]) || Check(x.Root(), bucket, own, append(slices.Clone(beside), "")) || Check(x.Root(), bucket, own, nil) {
			t.Error("checked", bucket)
		}
		for k := range beside {
			changed := slices.Clone(beside)
			changed[k] = "x"
			if Check(x.Root(), bucket, own, changed) {
				t.Error("other hashes", bucket, k)
			}
		}
	}
	for bucket := range 64 {
		own, beside := In(l, bucket), x.Prove(bucket)
		// Whose ways lead to the root as well, but from elsewhere, and by fewer or more hashes.
		if Check(x.Root(), bucket+64, own, beside) || Check(x.Root(), bucket-64, own, beside) || Check(x.At(1, bucket/32), bucket, own, beside[:5]) || Check(sha.Of([]string{x.Root(), "x"}), bucket, own, append(slices.Clone(beside), "x")) {
			t.Error("a way that is none", bucket)
		}
	}
	for _, bucket := range []int{-1, 64, math.MinInt, math.MaxInt} {
		if len(x.Prove(bucket)) != 0 || Check(x.Root(), bucket, nil, x.Prove(0)) {
			t.Error("no such bucket", bucket)
		}
	}
	x.Prove(3)[0] = "changed"
	if x.Prove(3)[0] == "changed" {
		t.Error("shared")
	}
}

func TestNilAndZero(t *testing.T) {
	for _, x := range []*Trie{nil, {}} {
		if x.Root() != "" || x.At(0, 0) != "" || x.At(6, 3) != "" || len(x.Prove(0)) != 0 {
			t.Error("a trie that is none")
		}
		for _, y := range [][2]*Trie{{x, Build(nil)}, {Build(nil), x}, {x, x}} {
			if got, pairs := Unlike(y[0], y[1]); len(got) != 0 || pairs != 0 {
				t.Error(got, pairs)
			}
		}
	}
}
