package crc

import (
	"hash/crc32"
	"strings"
	"testing"
)

func TestSumOfKnownBytes(t *testing.T) {
	for s, want := range map[string]int{"": 0, "123456789": 0xcbf43926, "a": 0xe8b7be43, "\x00": 0xd202ef8d, "\xff\xff\xff\xff": 0xffffffff} {
		if got := Sum(s); got != want {
			t.Errorf("%q: %x", s, got)
		}
	}
}

func TestSumIsThatOfTheStandard(t *testing.T) {
	var b strings.Builder
	for k := range 600 {
		s := b.String()
		if got := Sum(s); got != int(crc32.ChecksumIEEE([]byte(s))) || got < 0 || got >= 1<<32 {
			t.Errorf("%d bytes: %x", len(s), got)
		}
		b.WriteByte(byte(k * k))
	}
}

func TestMoreGoesOn(t *testing.T) {
	s := "some bytes, in parts\x00\xff"
	for k := range len(s) + 1 {
		if More(Sum(s[:k]), s[k:]) != Sum(s) {
			t.Error("cut at", k)
		}
	}
	if More(Sum(s), "") != Sum(s) || More(0, s) != Sum(s) {
		t.Error("nothing more, or nothing ahead")
	}
}

func TestMoreTakesTheLowestBits(t *testing.T) {
	sum := Sum("ab")
	for _, other := range []int{sum + 1<<32, sum - 1<<32, sum + 5<<40, sum - 1<<62} {
		if got := More(other, "cd"); got != Sum("abcd") {
			t.Errorf("%x: %x", other, got)
		}
		if got := More(other, ""); got != sum {
			t.Errorf("%x, nothing more: %x", other, got)
		}
	}
	if got := More(-1, ""); got != 1<<32-1 {
		t.Errorf("%x", got)
	}
}

func TestChangedBitsChangeTheSum(t *testing.T) {
	text := []byte("a text whose bits are changed")
	sum := Sum(string(text))
	for at := range len(text)*8 - 32 {
		for _, pattern := range []uint32{1, 3, 0x80000001, 0xffffffff, 0x0110, 0xedb88321} {
			b := []byte(string(text))
			for k := range 32 {
				if pattern>>k&1 == 1 {
					b[(at+k)/8] ^= 1 << ((at + k) % 8)
				}
			}
			if Sum(string(b)) == sum {
				t.Errorf("bits from %d on, %x: the same sum", at, pattern)
			}
		}
	}
}
