package token

import (
	"math"
	"pantler/api"
	"pantler/mac"
	"strings"
	"testing"
)

func entry(key, value string) api.Entry {
	return api.Entry{Key: key, Reg: api.Reg{N: 1, Value: value}}
}

func tenants() []api.Entry {
	return []api.Entry{entry("tenant/t/secret", "one"), entry("tenant/u/secret", "two")}
}

func TestMake(t *testing.T) {
	says := "\x00\x00\x00\x01t" + "\x00\x00\x00\x03joe" + "\x00\x00\x00\x00\x00\x00\x01\x02"
	if got := Make("one", "t", "joe", 258); got != says+mac.Sum("one", says) {
		t.Errorf("%q", got)
	}
	says = "\x00\x00\x00\x00" + "\x00\x00\x00\x00" + "\xff\xff\xff\xff\xff\xff\xff\xff"
	if got := Make("", "", "", -1); got != says+mac.Sum("", says) {
		t.Errorf("%q", got)
	}
}

func TestRead(t *testing.T) {
	for _, x := range []struct {
		tenant, user string
		until        int
	}{{"t", "joe", 5}, {"", "", 0}, {"T/\x00", strings.Repeat("u", 1000), -1}, {"a", "b", math.MinInt}, {"a", "b", math.MaxInt}} {
		token := Make("s", x.tenant, x.user, x.until)
		for _, sum := range []string{token[len(token)-32:], strings.Repeat("x", 32)} {
			a, b, n, ok := Read(token[:len(token)-32] + sum)
			if a != x.tenant || b != x.user || n != x.until || !ok {
				t.Error(x, a, b, n, ok)
			}
		}
	}
	token := Make("s", "t", "joe", 5)
	for k := range token {
		if a, b, n, ok := Read(token[:k]); a != "" || b != "" || n != 0 || ok {
			t.Error(k, a, b, n, ok)
		}
	}
	for _, s := range []string{"", token + "x", "x" + token, token + token, strings.Repeat("\x00", 31), strings.Repeat("\x00", 32), strings.Repeat("\xff", 60)} {
		if a, b, n, ok := Read(s); a != "" || b != "" || n != 0 || ok {
			t.Errorf("%q: %q %q %d %v", s, a, b, n, ok)
		}
	}
}

func TestCheck(t *testing.T) {
	for _, x := range []struct{ until, now int }{{5, 5}, {5, 4}, {5, -1}, {0, 0}, {-3, -3}, {math.MaxInt, math.MaxInt}, {math.MinInt, math.MinInt}} {
		if a, b, e := Check(tenants(), Make("one", "t", "joe", x.until), x.now); a != "t" || b != "joe" || e != api.OK {
			t.Error(x, a, b, e)
		}
	}
	refused := func(why, token string, now int) {
		t.Helper()
		if a, b, e := Check(tenants(), token, now); a != "" || b != "" || e != api.ErrToken {
			t.Error(why, a, b, e)
		}
	}
	refused("too late", Make("one", "t", "joe", 5), 6)
	refused("another tenant's secret", Make("two", "t", "joe", 5), 0)
	refused("no tenant", Make("one", "v", "joe", 5), 0)
	refused("no name", Make("one", "T", "joe", 5), 0)
	refused("no user's name", Make("one", "t", "Joe", 5), 0)
	refused("no user", Make("one", "t", "", 5), 0)
	refused("nothing", "", 0)
	refused("too short", Make("one", "t", "joe", 5)[1:], 0)
	refused("too long", Make("one", "t", "joe", 5)+"x", 0)
	if _, _, e := Check(nil, Make("one", "t", "joe", 5), 0); e != api.ErrToken {
		t.Error("of nothing", e)
	}
}

func TestATokenWithAnotherByteIsNone(t *testing.T) {
	token := Make("one", "t", "joe", 1<<40)
	for k := range token {
		for _, by := range []byte{1, 128} {
			b := []byte(token)
			b[k] ^= by
			if _, _, e := Check(tenants(), string(b), 0); e != api.ErrToken {
				t.Error(k, by, e)
			}
		}
	}
}
