package disk

import (
	"math"
	"math/rand/v2"
	"strings"
	"testing"
)

// has tells whether a disk has these bytes, so many of which are sure.
func has(d *Disk, bytes string, sure int) bool { return d.Bytes() == bytes && d.Sure() == sure }

func TestNewAndZero(t *testing.T) {
	for _, d := range []*Disk{New(), {}} {
		if !has(d, "", 0) || !has(d.Clone(), "", 0) {
			t.Error(d)
		}
		d.Crash(5)
		d.Sync()
		if !has(d, "", 0) {
			t.Error(d)
		}
		d.Append("ab")
		if !has(d, "ab", 0) {
			t.Error(d)
		}
	}
}

func TestCrash(t *testing.T) {
	for keep, want := range map[int]string{1: "abc", 0: "ab", 2: "abcd", 3: "abcd", -1: "ab", math.MaxInt: "abcd", math.MinInt: "ab"} {
		d := New()
		d.Append("ab")
		d.Sync()
		d.Append("c")
		d.Append("d")
		if !has(d, "abcd", 2) {
			t.Error(d)
		}
		d.Crash(keep)
		if !has(d, want, len(want)) {
			t.Error(keep, d.Bytes(), d.Sure())
		}
		d.Append("x")
		if !has(d, want+"x", len(want)) {
			t.Error(keep, d.Bytes(), d.Sure())
		}
	}
}

func TestSwap(t *testing.T) {
	d := New()
	d.Append("ab")
	d.Swap("xyz")
	if !has(d, "xyz", 3) {
		t.Error(d)
	}
	d.Append("!")
	d.Swap("")
	if !has(d, "", 0) {
		t.Error(d)
	}
}

func TestClone(t *testing.T) {
	d := New()
	d.Append("ab")
	d.Sync()
	d.Append("cd")
	c := d.Clone()
	if !has(c, "abcd", 2) {
		t.Error(c)
	}
	c.Append("x")
	d.Append("y")
	d.Sync()
	if !has(c, "abcdx", 2) || !has(d, "abcdy", 5) {
		t.Error(c, d)
	}
	c.Crash(0)
	c.Append("zzz")
	if !has(c, "abzzz", 2) || !has(d, "abcdy", 5) {
		t.Error(c, d)
	}
}

func TestNil(t *testing.T) {
	var d *Disk
	d.Append("a")
	d.Sync()
	d.Crash(1)
	d.Swap("a")
	if !has(d, "", 0) || d.Clone() != nil {
		t.Error("nil has something")
	}
}

func TestWhatIsSureIsNotLost(t *testing.T) {
	r := rand.New(rand.NewPCG(23, 24))
	for range 300 {
		d := New()
		all, sure := "", 0
		for k := range 40 {
			was := d.Bytes()
			switch r.IntN(5) {
			case 0, 1:
				s := strings.Repeat(string(rune('a'+k%26)), r.IntN(4))
				d.Append(s)
				all += s
			case 2:
				d.Sync()
				sure = len(all)
			case 3:
				keep := r.IntN(6) - 1
				d.Crash(keep)
				all = all[:min(len(all), sure+max(keep, 0))]
				if !strings.HasPrefix(was, d.Bytes()) || len(d.Bytes()) < sure {
					t.Fatal("lost", was, d.Bytes())
				}
				sure = len(all)
			default:
				if r.IntN(8) == 0 {
					all = "swapped"
					sure = len(all)
					d.Swap(all)
				}
			}
			if !has(d, all, sure) {
				t.Fatal(d.Bytes(), d.Sure(), all, sure)
			}
		}
	}
}
