package frame

import (
	"hash/crc32"
	"pantler/api"
	"slices"
	"strings"
	"testing"
)

func TestPut(t *testing.T) {
	for _, body := range []string{"", "a", "some record\x00\xff", strings.Repeat("x", 300)} {
		count := string([]byte{0, 0, byte(len(body) >> 8), byte(len(body))})
		sum := crc32.ChecksumIEEE([]byte(count + body))
		want := count + string([]byte{byte(sum >> 24), byte(sum >> 16), byte(sum >> 8), byte(sum)}) + body
		if got := Put(body); got != want {
			t.Errorf("%q: %q", body, got)
		}
	}
	if len(Put("")) != 8 {
		t.Error("the frame of nothing")
	}
}

func records() []string { return []string{"first", "", "third \x00", strings.Repeat("y", 40), "last"} }

func TestAllAndScan(t *testing.T) {
	l := records()
	s := All(l)
	want := ""
	for _, body := range l {
		want += Put(body)
	}
	if s != want || All(nil) != "" {
		t.Error("not one behind the other")
	}
	if got, n := Scan(s); !slices.Equal(got, l) || n != len(s) {
		t.Error(got, n)
	}
	if got, n := Scan(""); len(got) != 0 || n != 0 {
		t.Error(got, n)
	}
	for _, behind := range []string{"x", "\x00\x00\x00\x00", "\x00\x00\x00\x00\x00\x00\x00\x00", "\xff\xff\xff\xff\xff\xff\xff\xff\xff", strings.Repeat("z", 100), s[1:]} {
		if got, n := Scan(s + behind); !slices.Equal(got, l) || n != len(s) {
			t.Errorf("%q: %q %d", behind, got, n)
		}
	}
}

// ends are where the frames of records end.
func ends() []int {
	l := []int{0}
	for _, body := range records() {
		l = append(l, l[len(l)-1]+8+len(body))
	}
	return l
}

func TestCutFrames(t *testing.T) {
	s := All(records())
	for cut := range len(s) + 1 {
		whole := 0
		for _, end := range ends()[1:] {
			if end <= cut {
				whole++
			}
		}
		if got, n := Scan(s[:cut]); !slices.Equal(got, records()[:whole]) || n != ends()[whole] {
			t.Error(cut, got, n)
		}
	}
}

func TestChangedBits(t *testing.T) {
	s := All(records())
	for k, start := range ends()[:len(records())] {
		// The count's bits may tell of another length; in the sum and the record, up to 32 bits in a row are found.
		for at := (start + 4) * 8; at < ends()[k+1]*8; at++ {
			for _, pattern := range []uint32{1, 0x80000001, 0xffffffff, 0x00010101} {
				b := []byte(s)
				for bit := range 32 {
					if pattern>>bit&1 == 1 && at+bit < ends()[k+1]*8 {
						b[(at+bit)/8] ^= 1 << ((at + bit) % 8)
					}
				}
				if got, n := Scan(string(b)); !slices.Equal(got, records()[:k]) || n != start {
					t.Fatal(k, at, pattern, got, n)
				}
			}
		}
	}
	b := []byte(s)
	b[3]--
	if got, n := Scan(string(b)); len(got) != 0 || n != 0 {
		t.Error("another count", got, n)
	}
}

func TestGreatRecords(t *testing.T) {
	great := strings.Repeat("x", api.MaxBytes)
	if got, n := Scan(All([]string{great, "a"})); len(got) != 2 || got[0] != great || n != len(great)+17 {
		t.Error(len(got), n)
	}
	if got, n := Scan(All([]string{"a", great + "x", "b"})); !slices.Equal(got, []string{"a"}) || n != 9 {
		t.Error(len(got), n)
	}
}
