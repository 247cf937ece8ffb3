package objwire

import (
	"crypto/sha256"
	"fmt"
	"pantler/api"
	"pantler/dots"
	"pantler/object"
	"pantler/octet"
	"slices"
	"strings"
	"testing"
)

func seen(node string, base int, more ...int) api.Seen {
	return api.Seen{Node: node, Base: base, More: more}
}

func sib(node string, n int, value string, gone bool, time int) api.Sib {
	return api.Sib{Dot: api.Dot{Node: node, N: n}, Value: value, Gone: gone, Time: time}
}

// whole are objects that may be.
func whole() []api.Obj {
	ctx := []api.Seen{seen("a", 3, 5, 9), seen("b-1", 2)}
	return []api.Obj{
		{},
		{Ctx: ctx},
		{Ctx: ctx, Sibs: []api.Sib{sib("a", 1, "", false, 0)}},
		{Ctx: ctx, Sibs: []api.Sib{sib("a", 1, "", true, 0)}},
		{Ctx: ctx, Sibs: []api.Sib{sib("a", 1, "x\x00", false, 7), sib("a", 5, "", true, 1), sib("b-1", 2, strings.Repeat("v", api.MaxValue), false, api.MaxTime)}},
		{Ctx: []api.Seen{seen("a", api.MaxDot)}},
		{Ctx: []api.Seen{seen("a", 0, 2)}},
	}
}

// odd are objects that may not be, but can be written.
func odd() []api.Obj {
	return []api.Obj{
		{Ctx: []api.Seen{seen("", -1, 0, -5), seen("B", 0)}},
		{Sibs: []api.Sib{sib("x", -1, "gone", true, -9), sib("x", -1, strings.Repeat("v", 1000), false, 1<<62)}},
	}
}

func bytesOf(o api.Obj) string {
	var w octet.Writer
	Obj(&w, o)
	return w.Bytes()
}

func TestObjectsAreWrittenPartByPart(t *testing.T) {
	o := api.Obj{Ctx: []api.Seen{seen("ab", 3, 5)}, Sibs: []api.Sib{sib("ab", 2, "v", false, 258), sib("ab", 5, "", true, -1)}}
	ctx := "\x00\x00\x00\x01" + "\x00\x00\x00\x02ab" + "\x00\x00\x00\x00\x00\x00\x00\x03" + "\x00\x00\x00\x01" + "\x00\x00\x00\x00\x00\x00\x00\x05"
	want := ctx + "\x00\x00\x00\x02" +
		"\x00\x00\x00\x02ab" + "\x00\x00\x00\x00\x00\x00\x00\x02" + "\x00\x00\x00\x01v" + "\x00" + "\x00\x00\x00\x00\x00\x00\x01\x02" +
		"\x00\x00\x00\x02ab" + "\x00\x00\x00\x00\x00\x00\x00\x05" + "\x00\x00\x00\x00" + "\x01" + "\xff\xff\xff\xff\xff\xff\xff\xff"
	if got := bytesOf(o); got != want {
		t.Errorf("%q", got)
	}
	var w octet.Writer
	w.Byte(9)
	Ctx(&w, o.Ctx)
	if got := w.Bytes(); got != "\x09"+ctx {
		t.Errorf("%q", got)
	}
	if got := bytesOf(api.Obj{}); got != strings.Repeat("\x00", 8) {
		t.Errorf("%q", got)
	}
}

func TestWhatIsWrittenIsRead(t *testing.T) {
	for k, o := range append(whole(), odd()...) {
		r := octet.New(bytesOf(o) + "x")
		if got := ReadObj(r); !object.Same(got, o) || r.Bad() || r.Done() || r.Byte() != 'x' {
			t.Error(k, got)
		}
		var w octet.Writer
		Ctx(&w, o.Ctx)
		r = octet.New(w.Bytes())
		if got := ReadCtx(r); !dots.Same(got, o.Ctx) || !r.Done() {
			t.Error(k, got)
		}
	}
}

func TestCutBytesAreBad(t *testing.T) {
	for k, o := range append(whole(), odd()...) {
		s := bytesOf(o)
		for cut := range s {
			r := octet.New(s[:cut])
			if got := ReadObj(r); len(got.Ctx)+len(got.Sibs) > 0 || !r.Bad() {
				t.Error(k, cut, got)
			}
			if got, e := Of(s[:cut]); e != api.ErrBad || len(got.Ctx)+len(got.Sibs) > 0 {
				t.Error(k, cut, got, e)
			}
		}
		var w octet.Writer
		Ctx(&w, o.Ctx)
		for cut := range w.Bytes() {
			r := octet.New(w.Bytes()[:cut])
			if got := ReadCtx(r); len(got) > 0 || !r.Bad() {
				t.Error(k, cut, got)
			}
		}
	}
}

func TestNothingIsReadOfNil(t *testing.T) {
	Ctx(nil, whole()[4].Ctx)
	Obj(nil, whole()[4])
	for _, r := range []*octet.Reader{nil, {}} {
		if o := ReadObj(r); len(o.Ctx)+len(o.Sibs)+len(ReadCtx(r)) > 0 {
			t.Error(o)
		}
	}
}

// counted are bytes of a list of so many parts, each the same.
func counted(many int, part string) string {
	var w octet.Writer
	w.Count(many)
	w.WriteString(strings.Repeat(part, many))
	return w.Bytes()
}

func TestGreatCounts(t *testing.T) {
	none, number := "\x00\x00\x00\x00", "\x00\x00\x00\x00\x00\x00\x00\x01"
	seenPart, sibPart := none+number+none, none+number+none+"\x05"+number
	for _, many := range []int{api.MaxCount, api.MaxCount + 1} {
		more := counted(1, none+number+counted(many, number))
		for k, s := range []string{counted(many, seenPart) + none, more + none, none + counted(many, sibPart)} {
			r := octet.New(s)
			o := ReadObj(r)
			if many > api.MaxCount && (!r.Bad() || len(o.Ctx)+len(o.Sibs) > 0) {
				t.Error("too many are read", k)
			}
			if many == api.MaxCount && (!r.Done() || len(o.Ctx)+len(o.Sibs) == 0) {
				t.Error("not read", k)
			}
			if k < 2 {
				r = octet.New(s[:len(s)-4])
				if got := ReadCtx(r); r.Bad() != (many > api.MaxCount) || r.Bad() != (len(got) == 0) {
					t.Error("context", k, many)
				}
			}
		}
	}
}

func TestOfReadsWhateverMayBe(t *testing.T) {
	var o api.Obj
	for k := range api.MaxCount + 1 {
		o.Ctx = append(o.Ctx, seen(fmt.Sprintf("n%06d", k), 1))
	}
	s, e := Bytes(o)
	if e != api.OK {
		t.Fatal(e)
	}
	if got, e := Of(s); e != api.OK || !object.Same(got, o) {
		t.Error(e, len(got.Ctx))
	}
}

func TestBytesAndOf(t *testing.T) {
	all := map[string]int{}
	for k, o := range whole() {
		s, e := Bytes(o)
		if e != api.OK || s != bytesOf(o) {
			t.Error(k, e)
		}
		if got, e := Of(s); e != api.OK || !object.Same(got, o) {
			t.Error(k, got, e)
		}
		if got, e := Of(s + "\x00"); e != api.ErrBad || len(got.Ctx) > 0 {
			t.Error(k, got, e)
		}
		all[s] = k
	}
	if len(all) != len(whole()) {
		t.Error("two objects have the same bytes")
	}
	for k, o := range odd() {
		if s, e := Bytes(o); e != api.ErrArg || s != "" {
			t.Error(k, s, e)
		}
		if got, e := Of(bytesOf(o)); e != api.ErrBad || len(got.Ctx)+len(got.Sibs) > 0 {
			t.Error(k, got, e)
		}
	}
}

func TestOnlyOneByteIsGone(t *testing.T) {
	o := api.Obj{Ctx: []api.Seen{seen("a", 1)}, Sibs: []api.Sib{sib("a", 1, "", true, 3)}}
	s := bytesOf(o)
	at := len(s) - 9
	for c := range 256 {
		changed := s[:at] + string([]byte{byte(c)}) + s[at+1:]
		if got := ReadObj(octet.New(changed)); got.Sibs[0].Gone != (c != 0) {
			t.Error(c)
		}
		if _, e := Of(changed); (e == api.OK) != (c < 2) {
			t.Error(c, e)
		}
	}
}

func TestDigest(t *testing.T) {
	sums := map[string]int{}
	for k, o := range append(whole(), odd()...) {
		want := sha256.Sum256([]byte(bytesOf(o)))
		if got := Digest(o); got != string(want[:]) {
			t.Errorf("%d: %x", k, got)
		}
		sums[Digest(o)] = k
	}
	if len(sums) != len(whole())+len(odd()) {
		t.Error("two objects have one digest")
	}
}

func TestNothingIsChanged(t *testing.T) {
	more := []int{5, 9, 99}
	o := api.Obj{Ctx: []api.Seen{seen("a", 3, more[:2]...)}, Sibs: []api.Sib{sib("a", 1, "", false, 0)}}
	s := bytesOf(o)
	got, _ := Of(s)
	got.Ctx[0].More[0] = 7
	got.Sibs[0].Time = 7
	if bytesOf(o) != s || !slices.Equal(more, []int{5, 9, 99}) {
		t.Error(o)
	}
}
