package mac

import (
	"crypto/hmac"
	"crypto/sha256"
	"encoding/hex"
	"strings"
	"testing"
)

func TestSumOfNothingByNothing(t *testing.T) {
	if got := hex.EncodeToString([]byte(Sum("", ""))); got != "b613679a0814d9ec772f95d778c35fc5ff1697c493715653c6c712144292c5ad" {
		t.Error(got)
	}
}

func TestSumIsThatOfTheStandard(t *testing.T) {
	for _, n := range []int{0, 1, 31, 32, 33, 63, 64, 65, 100, 1000} {
		for _, m := range []int{0, 1, 55, 56, 64, 300} {
			secret, s := strings.Repeat("k\xff", n)[:n], strings.Repeat("text", m)
			h := hmac.New(sha256.New, []byte(secret))
			h.Write([]byte(s))
			want := string(h.Sum(nil))
			if got := Sum(secret, s); got != want {
				t.Errorf("secret of %d bytes, text of %d: %x", n, len(s), got)
			}
			if !Is(secret, s, want) {
				t.Error("the sum is none", n, m)
			}
		}
	}
}

func TestAnotherSumIsNone(t *testing.T) {
	sum := Sum("secret", "text")
	for k := range len(sum) {
		for _, by := range []byte{1, 0x80, 0xff} {
			b := []byte(sum)
			b[k] ^= by
			if Is("secret", "text", string(b)) {
				t.Error("byte", k, by)
			}
		}
	}
	for _, s := range []string{"", sum[:31], sum + "\x00", sum[1:], sum + sum} {
		if Is("secret", "text", s) {
			t.Errorf("%d bytes are a sum", len(s))
		}
	}
	if Is("Secret", "text", sum) || Is("secret", "Text", sum) || Is("text", "secret", sum) {
		t.Error("another secret's or text's sum")
	}
}

func TestNoughtsBehindSecrets(t *testing.T) {
	for _, n := range []int{0, 1, 32, 63} {
		secret := strings.Repeat("s", n)
		for m := n; m <= 64; m++ {
			if Sum(secret, "x") != Sum(secret+strings.Repeat("\x00", m-n), "x") {
				t.Error(n, m)
			}
		}
		if Sum(secret, "x") == Sum(secret+strings.Repeat("\x00", 65-n), "x") {
			t.Error("65 bytes are as", n)
		}
	}
	if Sum("a\x00b", "x") == Sum("ab", "x") || Sum("\x00a", "x") == Sum("a", "x") {
		t.Error("a nought ahead changes nothing")
	}
}
