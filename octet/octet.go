// Package octet is layer 1: numbers and texts as bytes.
package octet

import (
	"pantler/api"
	"strings"
)

// Writer writes bytes. A zero one has none.
type Writer struct {
	strings.Builder
	home *Writer
}

// Byte writes a byte.
func (w *Writer) Byte(n int) { w.number(n, 1) }

// Int writes a number.
func (w *Writer) Int(n int) { w.number(n, 8) }

// Count writes a count.
func (w *Writer) Count(n int) { w.number(n, 4) }

// Text writes a text.
func (w *Writer) Text(s string) {
	w.Count(len(s))
	w.put(s)
}

// Texts writes a list of texts.
func (w *Writer) Texts(l []string) {
	w.Count(len(l))
	for _, s := range l {
		w.Text(s)
	}
}

// Bytes are those that were written.
func (w *Writer) Bytes() string {
	if w == nil {
		return ""
	}
	return w.String()
}

// number writes the lowest bytes of a number, the greatest one first.
func (w *Writer) number(n, bytes int) {
	var b [8]byte
	for k := range bytes {
		b[k] = byte(n >> (8 * (bytes - 1 - k)))
	}
	w.put(string(b[:bytes]))
}

func (w *Writer) put(s string) {
	if w == nil {
		return
	}
	w.settle()
	w.WriteString(s)
}

// settle lets a writer that was copied go its own way: the library's builder panics when a copy of it is written to.
func (w *Writer) settle() {
	if w.home == w {
		return
	}
	written := w.String()
	w.Builder = strings.Builder{}
	w.WriteString(written)
	w.home = w
}

// Reader reads bytes. A zero one is bad.
type Reader struct {
	rest string
	good bool
}

// New reads bytes.
func New(s string) *Reader { return &Reader{rest: s, good: true} }

// Byte reads a byte.
func (r *Reader) Byte() int { return r.number(1) }

// Int reads a number.
func (r *Reader) Int() int { return r.number(8) }

// Count reads a count, up to a bound.
func (r *Reader) Count(most int) int {
	n := r.number(4)
	if n > most {
		r.fail()
		return 0
	}
	return n
}

// Text reads a text.
func (r *Reader) Text() string { return r.take(r.Count(api.MaxBytes)) }

// Texts reads a list of texts.
func (r *Reader) Texts() []string {
	l := several(r.Count(api.MaxCount), r.Text, r.Bad)
	if r.Bad() {
		return nil
	}
	return l
}

// several reads so many texts, and leaves off where there is nothing to read.
func several(many int, next func() string, over func() bool) []string {
	var l []string
	for len(l) < many && !over() {
		l = append(l, next())
	}
	return l
}

// Bad tells whether something was not there, or was too great.
func (r *Reader) Bad() bool { return r == nil || !r.good }

// Done tells whether all was read, and nothing bad.
func (r *Reader) Done() bool { return !r.Bad() && r.rest == "" }

func (r *Reader) fail() {
	if r != nil {
		*r = Reader{}
	}
}

func (r *Reader) take(n int) string {
	if r.Bad() || n > len(r.rest) {
		r.fail()
		return ""
	}
	s := r.rest[:n]
	r.rest = r.rest[n:]
	return s
}

func (r *Reader) number(bytes int) int {
	s := r.take(bytes)
	n := 0
	for k := range len(s) {
		n = n<<8 | int(s[k])
	}
	return n
}
