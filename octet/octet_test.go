package octet

import (
	"math"
	"pantler/api"
	"slices"
	"strings"
	"testing"
)

// written is what a new writer has when something was done with it.
func written(do func(w *Writer)) string {
	var w Writer
	do(&w)
	return w.Bytes()
}

func TestNumbersAreWrittenAsTheirBytes(t *testing.T) {
	for n, want := range map[int]string{0: "\x00", 1: "\x01", 255: "\xff", 256: "\x00", 257: "\x01", -1: "\xff", -256: "\x00", -257: "\xff", math.MinInt: "\x00", math.MaxInt: "\xff"} {
		if got := written(func(w *Writer) { w.Byte(n) }); got != want {
			t.Errorf("byte %d: %q", n, got)
		}
	}
	for n, want := range map[int]string{
		0:                  "\x00\x00\x00\x00\x00\x00\x00\x00",
		0x0102030405060708: "\x01\x02\x03\x04\x05\x06\x07\x08",
		-1:                 "\xff\xff\xff\xff\xff\xff\xff\xff",
		-2:                 "\xff\xff\xff\xff\xff\xff\xff\xfe",
		math.MinInt:        "\x80\x00\x00\x00\x00\x00\x00\x00",
		math.MaxInt:        "\x7f\xff\xff\xff\xff\xff\xff\xff",
	} {
		if got := written(func(w *Writer) { w.Int(n) }); got != want {
			t.Errorf("int %d: %q", n, got)
		}
	}
	for n, want := range map[int]string{0: "\x00\x00\x00\x00", 0x01020304: "\x01\x02\x03\x04", 1<<32 - 1: "\xff\xff\xff\xff", 1 << 32: "\x00\x00\x00\x00", 1<<32 + 7: "\x00\x00\x00\x07", -1: "\xff\xff\xff\xff"} {
		if got := written(func(w *Writer) { w.Count(n) }); got != want {
			t.Errorf("count %d: %q", n, got)
		}
	}
}

func TestTextsAreWrittenWithTheirCounts(t *testing.T) {
	if got := written(func(w *Writer) { w.Text("ab") }); got != "\x00\x00\x00\x02ab" {
		t.Errorf("%q", got)
	}
	if got := written(func(w *Writer) { w.Text("") }); got != "\x00\x00\x00\x00" {
		t.Errorf("%q", got)
	}
	if got := written(func(w *Writer) { w.Texts([]string{"é", ""}) }); got != "\x00\x00\x00\x02\x00\x00\x00\x02\xc3\xa9\x00\x00\x00\x00" {
		t.Errorf("%q", got)
	}
	if got := written(func(w *Writer) { w.Texts(nil) }); got != "\x00\x00\x00\x00" {
		t.Errorf("%q", got)
	}
}

func TestWriterKeepsWhatWasWritten(t *testing.T) {
	var w Writer
	if w.Bytes() != "" {
		t.Error("a zero writer has bytes")
	}
	w.Byte(1)
	first := w.Bytes()
	w.Byte(2)
	if first != "\x01" || w.Bytes() != "\x01\x02" || w.Bytes() != "\x01\x02" {
		t.Errorf("%q %q", first, w.Bytes())
	}
}

func TestNilWriterHasNothing(t *testing.T) {
	var w *Writer
	w.Byte(1)
	w.Int(1)
	w.Count(1)
	w.Text("a")
	w.Texts([]string{"a"})
	if w.Bytes() != "" {
		t.Error(w.Bytes())
	}
}

func TestCopiedWriterGoesItsOwnWay(t *testing.T) {
	var w Writer
	w.Text("a")
	c := w
	c.Byte(1)
	w.Byte(2)
	if c.Bytes() != "\x00\x00\x00\x01a\x01" || w.Bytes() != "\x00\x00\x00\x01a\x02" {
		t.Errorf("%q %q", c.Bytes(), w.Bytes())
	}
}

func TestWhatIsWrittenIsRead(t *testing.T) {
	var w Writer
	numbers := []int{0, 1, -1, 255, 256, math.MinInt, math.MaxInt}
	lists := [][]string{nil, {""}, {"a", "", "bc\x00"}, slices.Repeat([]string{"x"}, 300)}
	for _, n := range numbers {
		w.Byte(n)
		w.Int(n)
		w.Count(n)
	}
	for _, l := range lists {
		w.Texts(l)
		w.Text(strings.Join(l, "/"))
	}
	r := New(w.Bytes())
	for _, n := range numbers {
		if a, b, c := r.Byte(), r.Int(), r.Count(1<<32-1); a != n&255 || b != n || c != n&(1<<32-1) {
			t.Error(n, a, b, c)
		}
	}
	for _, l := range lists {
		if r.Done() {
			t.Error("done too soon")
		}
		if got := r.Texts(); !slices.Equal(got, l) {
			t.Error(got, l)
		}
		if got := r.Text(); got != strings.Join(l, "/") {
			t.Error(got, l)
		}
	}
	if r.Bad() || !r.Done() {
		t.Error("not done")
	}
}

// reads are all ways to read, each telling whether what it answered is zero.
func reads() map[string]func(r *Reader) bool {
	return map[string]func(r *Reader) bool{
		"byte":  func(r *Reader) bool { return r.Byte() == 0 },
		"int":   func(r *Reader) bool { return r.Int() == 0 },
		"count": func(r *Reader) bool { return r.Count(1<<32-1) == 0 },
		"text":  func(r *Reader) bool { return r.Text() == "" },
		"texts": func(r *Reader) bool { return len(r.Texts()) == 0 },
	}
}

func TestBadReadersStayBad(t *testing.T) {
	spoilt := New("\x00\x00\x00\x01")
	spoilt.Int()
	for kind, r := range map[string]*Reader{"nil": nil, "zero": {}, "spoilt": spoilt} {
		for name, zero := range reads() {
			if !zero(r) || !r.Bad() || r.Done() {
				t.Error(kind, name)
			}
		}
	}
}

func TestTooFewBytesAreBad(t *testing.T) {
	for name, s := range map[string]string{"byte": "", "int": "\x01\x02\x03\x04\x05\x06\x07", "count": "\x00\x00\x01", "text": "\x00\x00\x00\x03ab", "texts": "\x00\x00\x00\x02\x00\x00\x00\x01a\x00\x00\x00\x01"} {
		r := New(s)
		if r.Bad() {
			t.Error(name, "bad at once")
		}
		if !reads()[name](r) || !r.Bad() || r.Done() {
			t.Error(name)
		}
		for other, zero := range reads() {
			if !zero(r) || !r.Bad() {
				t.Error(name, other)
			}
		}
	}
}

func TestCountsAboveTheirBoundAreBad(t *testing.T) {
	for _, x := range []struct{ most, read int }{{5, 5}, {4, 0}, {0, 0}, {-1, 0}, {6, 5}} {
		r := New("\x00\x00\x00\x05\x01")
		if got := r.Count(x.most); got != x.read || r.Bad() != (x.read == 0) {
			t.Error(x, got)
		}
	}
	if r := New("\x00\x00\x00\x00"); r.Count(0) != 0 || !r.Done() {
		t.Error("a count of nothing, up to nothing")
	}
	if r := New("\x00\x00\x00\x00"); r.Count(-1) != 0 || !r.Bad() {
		t.Error("a count above a bound below nothing")
	}
}

func TestGreatTexts(t *testing.T) {
	great := strings.Repeat("x", api.MaxBytes)
	r := New(written(func(w *Writer) { w.Text(great) }))
	if r.Text() != great || !r.Done() {
		t.Error("the greatest text")
	}
	r = New(written(func(w *Writer) { w.Text(great + "x") }))
	if r.Text() != "" || !r.Bad() {
		t.Error("a text that is too great")
	}
	many := make([]string, api.MaxCount)
	r = New(written(func(w *Writer) { w.Texts(many) }))
	if !slices.Equal(r.Texts(), many) || !r.Done() {
		t.Error("the longest list")
	}
	r = New(written(func(w *Writer) { w.Texts(append(many, "")) }))
	if r.Texts() != nil || !r.Bad() {
		t.Error("a list that is too long")
	}
}

func TestCutBytesAreBadOrNotAllIsRead(t *testing.T) {
	s := written(func(w *Writer) {
		w.Byte(7)
		w.Int(-5)
		w.Count(3)
		w.Text("abc")
		w.Texts([]string{"d", "ef"})
	})
	readAll := func(s string) *Reader {
		r := New(s)
		r.Byte()
		r.Int()
		r.Count(3)
		r.Text()
		r.Texts()
		return r
	}
	if !readAll(s).Done() {
		t.Error("whole bytes")
	}
	for k := range len(s) {
		if r := readAll(s[:k]); !r.Bad() || r.Done() {
			t.Error("cut at", k)
		}
	}
	if r := readAll(s + "x"); r.Bad() || r.Done() {
		t.Error("a byte more")
	}
}
