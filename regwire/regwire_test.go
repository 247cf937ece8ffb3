package regwire

import (
	"crypto/sha256"
	"fmt"
	"pantler/api"
	"pantler/octet"
	"pantler/registry"
	"slices"
	"strings"
	"testing"
)

func entry(key string, n int, by, value string) api.Entry {
	return api.Entry{Key: key, Reg: api.Reg{N: n, By: by, Value: value}}
}

// whole are entries that may be.
func whole() [][]api.Entry {
	return [][]api.Entry{
		nil,
		{entry("a", 1, "", "")},
		{entry("a", 1, "n1", "x"), entry("a/b", api.MaxVersion, "", strings.Repeat("v", api.MaxValue)), entry("b\x00", 258, "n2", "\xff")},
		{entry(strings.Repeat("k", api.MaxPath), 7, "abcdefghijklmnop", "")},
	}
}

// odd are entries that may not be, but can be written.
func odd() [][]api.Entry {
	return [][]api.Entry{
		{entry("b", 1, "", ""), entry("a", 1, "", "")},
		{entry("a", 1, "", ""), entry("a", 1, "", "")},
		{entry("", 0, "B", ""), entry("x", -1, "", strings.Repeat("v", 1000))},
	}
}

func TestEntriesAreWrittenPartByPart(t *testing.T) {
	want := "\x00\x00\x00\x02" +
		"\x00\x00\x00\x03a/b" + "\x00\x00\x00\x00\x00\x00\x01\x02" + "\x00\x00\x00\x02n1" + "\x00\x00\x00\x01x" +
		"\x00\x00\x00\x00" + "\xff\xff\xff\xff\xff\xff\xff\xff" + "\x00\x00\x00\x00" + "\x00\x00\x00\x00"
	var w octet.Writer
	w.Byte(9)
	Entries(&w, []api.Entry{entry("a/b", 258, "n1", "x"), entry("", -1, "", "")})
	if got := w.Bytes(); got != "\x09"+want {
		t.Errorf("%q", got)
	}
	if got := written(nil); got != "\x00\x00\x00\x00" {
		t.Errorf("%q", got)
	}
}

func TestWhatIsWrittenIsRead(t *testing.T) {
	for k, l := range append(whole(), odd()...) {
		s := written(l)
		r := octet.New(s + "x")
		if got := ReadEntries(r); !registry.Same(got, l) || r.Bad() || r.Byte() != 'x' {
			t.Error(k, got)
		}
		for cut := range s {
			r := octet.New(s[:cut])
			if got := ReadEntries(r); len(got) > 0 || !r.Bad() {
				t.Error(k, cut, got)
			}
			if got, e := Of(s[:cut]); e != api.ErrBad || len(got) > 0 {
				t.Error(k, cut, got, e)
			}
		}
	}
}

func TestNothingIsReadOfNil(t *testing.T) {
	Entries(nil, whole()[2])
	for _, r := range []*octet.Reader{nil, {}} {
		if l := ReadEntries(r); len(l) > 0 {
			t.Error(l)
		}
	}
}

func TestGreatCounts(t *testing.T) {
	for _, many := range []int{api.MaxCount, api.MaxCount + 1} {
		s := written(make([]api.Entry, many))
		r := octet.New(s)
		if got := ReadEntries(r); r.Bad() != (many > api.MaxCount) || len(got) != many && !r.Bad() || r.Bad() && len(got) > 0 {
			t.Error(many, len(got))
		}
		if _, e := Of(s); e != api.ErrBad {
			t.Error(many, e)
		}
	}
	for _, many := range []int{4096, 4097} {
		var l []api.Entry
		for k := range many {
			l = append(l, entry(fmt.Sprintf("%05d", k), 1, "", ""))
		}
		s, e := Bytes(l)
		if (e == api.OK) != (many == 4096) || e != api.OK && s != "" {
			t.Error(many, e)
		}
		if got, e := Of(written(l)); (e == api.OK) != (many == 4096) || e == api.OK && !registry.Same(got, l) {
			t.Error(many, e)
		}
	}
}

func TestBytesAndOf(t *testing.T) {
	all := map[string]int{}
	for k, l := range whole() {
		s, e := Bytes(l)
		if e != api.OK || s != written(l) {
			t.Error(k, e)
		}
		if got, e := Of(s); e != api.OK || !registry.Same(got, l) {
			t.Error(k, got, e)
		}
		if got, e := Of(s + "\x00"); e != api.ErrBad || len(got) > 0 {
			t.Error(k, got, e)
		}
		all[s] = k
	}
	if len(all) != len(whole()) {
		t.Error("two lists have the same bytes")
	}
	for k, l := range odd() {
		if s, e := Bytes(l); e != api.ErrArg || s != "" {
			t.Error(k, s, e)
		}
		if got, e := Of(written(l)); e != api.ErrBad || len(got) > 0 {
			t.Error(k, got, e)
		}
	}
	if got, e := Of(""); e != api.ErrBad || len(got) > 0 {
		t.Error("no bytes", e)
	}
}

func TestDigest(t *testing.T) {
	var sums []string
	for k, l := range append(whole(), odd()...) {
		want := sha256.Sum256([]byte(written(l)))
		got := Digest(l)
		if got != string(want[:]) || slices.Contains(sums, got) {
			t.Errorf("%d: %x", k, got)
		}
		sums = append(sums, got)
	}
}
