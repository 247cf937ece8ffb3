package name

import (
	"math"
	"pantler/api"
	"slices"
	"strings"
	"testing"
)

func TestNames(t *testing.T) {
	for _, s := range []string{"a", "z", "0", "9", "-", "node-1", "abcdefghijklmnop", strings.Repeat("-", api.MaxName)} {
		if !Is(s) {
			t.Errorf("%q is no name", s)
		}
	}
	for _, s := range []string{"", "abcdefghijklmnopq", "A", "a b", "a/b", "a.b", "_", "é", "a\x00", "\xff", "{", "`", ":", ",", ".", "aé", strings.Repeat("é", 8)} {
		if Is(s) {
			t.Errorf("%q is a name", s)
		}
	}
	for c := range 256 {
		s := string([]byte{'x', byte(c)})
		want := strings.IndexByte("abcdefghijklmnopqrstuvwxyz0123456789-", byte(c)) >= 0
		if Is(s) != want {
			t.Errorf("%q", s)
		}
	}
}

func TestKeys(t *testing.T) {
	for _, s := range []string{"a", "\x00", "/", "\xff\xfe", strings.Repeat("x", api.MaxKey)} {
		if !IsKey(s) {
			t.Errorf("%q is no key", s)
		}
	}
	for _, s := range []string{"", strings.Repeat("x", api.MaxKey+1), strings.Repeat("é", 33)} {
		if IsKey(s) {
			t.Errorf("%q is a key", s)
		}
	}
}

func TestPlacesTellBucketsAndKeys(t *testing.T) {
	long := strings.Repeat("k", api.MaxKey)
	for _, x := range [][3]string{{"a", "b", "a/b"}, {"a", "/b", "a//b"}, {"a", "/", "a//"}, {"b-1", "x/y/z", "b-1/x/y/z"}, {"abcdefghijklmnop", long, "abcdefghijklmnop/" + long}} {
		if got := Join(x[0], x[1]); got != x[2] {
			t.Errorf("%q: %q", x, got)
		}
		if a, b, ok := Split(x[2]); a != x[0] || b != x[1] || !ok {
			t.Errorf("%q: %q %q %v", x, a, b, ok)
		}
	}
	if Join("", "") != "/" || Join("A/", "") != "A//" || Join("", "k") != "/k" {
		t.Error("joined, whatever they are")
	}
	for _, s := range []string{"", "/", "a", "a/", "/a", "A/b", "abcdefghijklmnopq/b", "a/" + long + "k", "é/b", "//a"} {
		if a, b, ok := Split(s); a != "" || b != "" || ok {
			t.Errorf("%q: %q %q %v", s, a, b, ok)
		}
	}
}

func TestPaths(t *testing.T) {
	for _, x := range []struct {
		path  string
		parts []string
	}{{"", nil}, {"a", []string{"a"}}, {"a/b", []string{"a", "b"}}, {"/", []string{"", ""}}, {"a//b/", []string{"a", "", "b", ""}}, {"prop/t/b/n", []string{"prop", "t", "b", "n"}}} {
		if got := Path(x.parts...); got != x.path {
			t.Errorf("%q: %q", x.parts, got)
		}
		if got := Parts(x.path); !slices.Equal(got, x.parts) {
			t.Errorf("%q: %q", x.path, got)
		}
	}
	if Path("") != "" || len(Parts("")) != 0 {
		t.Error("nothing")
	}
	room := []string{"a", "b", "c"}
	if Path(room[:2]...) != "a/b" || room[2] != "c" {
		t.Error("what lies behind a list's end")
	}
}

func TestDigitsTellNumbers(t *testing.T) {
	for n, s := range map[int]string{0: "0", 7: "7", -7: "-7", 10: "10", 1234567890: "1234567890", math.MaxInt: "9223372036854775807", math.MinInt: "-9223372036854775808"} {
		if Dec(n) != s {
			t.Error(n, Dec(n))
		}
		if got, ok := Num(s); got != n || !ok {
			t.Error(s, got, ok)
		}
	}
	for _, s := range []string{"", "-", "+1", "-0", "00", "01", "-01", " 1", "1 ", "1_0", "0x1", "a", "1.0", "9223372036854775808", "-9223372036854775809", "99999999999999999999999", "١"} {
		if n, ok := Num(s); n != 0 || ok {
			t.Error(s, n, ok)
		}
	}
}
