package sha

import (
	"crypto/sha256"
	"encoding/hex"
	"pantler/octet"
	"strings"
	"testing"
)

func TestHexOfKnownTexts(t *testing.T) {
	for s, want := range map[string]string{
		"":    "e3b0c44298fc1c149afbf4c8996fb92427ae41e4649b934ca495991b7852b855",
		"abc": "ba7816bf8f01cfea414140de5dae2223b00361a396177a9cb410ff61f20015ad",
		"abcdbcdecdefdefgefghfghighijhijkijkljklmklmnlmnomnopnopq": "248d6a61d20638b8e5c026930c3e6039a33ce45964ff2167f6ecedd419db06c1",
		strings.Repeat("a", 1000000):                               "cdc76e5c9914fb9281a1c7e284d73e67f1809a48a497200e046d39ccc7112cd0",
	} {
		if got := Hex(s); got != want {
			t.Errorf("%d bytes: %s", len(s), got)
		}
	}
}

func TestSumIsThatOfTheStandard(t *testing.T) {
	var b strings.Builder
	for k := range 300 {
		s := b.String()
		want := sha256.Sum256([]byte(s))
		if got := Sum(s); got != string(want[:]) {
			t.Errorf("%d bytes: %x", k, got)
		}
		if got := Hex(s); got != hex.EncodeToString(want[:]) {
			t.Errorf("%d bytes: %s", k, got)
		}
		b.WriteByte(byte(k * 37))
	}
}

func TestSumHangsOnTheBytesAlone(t *testing.T) {
	room := []byte("one text, and more behind it")
	a, b := string(room[:8]), "one text"
	if Sum(a) != Sum(b) || Sum(a) != Sum(a) {
		t.Error("one text has two sums")
	}
	if Sum(a) == Sum(a+"\x00") || Sum("") == Sum("\x00") {
		t.Error("a byte more changes nothing")
	}
}

func TestOfTellsListsApart(t *testing.T) {
	lists := [][]string{nil, {""}, {"", ""}, {"ab"}, {"a", "b"}, {"b", "a"}, {"a", "b", ""}, {"", "ab"}, {"ab", ""}}
	sums := map[string]int{}
	for k, l := range lists {
		var w octet.Writer
		w.Texts(l)
		want := sha256.Sum256([]byte(w.Bytes()))
		got := Of(l)
		if got != string(want[:]) {
			t.Errorf("%q: %x", l, got)
		}
		if n, known := sums[got]; known {
			t.Errorf("%q and %q have one sum", lists[n], l)
		}
		sums[got] = k
	}
	if Of(nil) != Of([]string{}) {
		t.Error("nil and the empty list are not the same")
	}
}
