package sum_test

import (
	"strings"
	"testing"

	"annalist/sum"
)

func TestP14Of(t *testing.T) {
	for _, x := range []struct {
		s    string
		want int
	}{
		{"123456789", 0x31c3},
		{"", 0},
		{"\x00", 0},
		{"\x00\x00\x00", 0},
		{"\x01", 0x1021},
		{"\x80", 0x9188},
		{"\xff", 0x1ef0},
		{"A", 0x58e5},
		{"\x00A", 0x58e5},
		{"A\x00", 0x3efd},
		{"\xff\xff", 0x1d0f},
	} {
		if got := sum.Of(x.s); got != x.want {
			t.Errorf("Of(%q) = %04x, want %04x", x.s, got, x.want)
		}
	}
}

// remainder divides the bits of s, followed by sixteen zeros, by the polynomial 11021 (hexadecimal):
// another definition of the same checksum.
func remainder(s string) int {
	rest := 0
	for _, b := range []byte(s + "\x00\x00") {
		for bit := 7; bit >= 0; bit-- {
			rest = rest<<1 | int(b>>bit)&1
			if rest >= 1<<16 {
				rest ^= 0x11021
			}
		}
	}
	return rest
}

func TestP14OfIsTheRemainder(t *testing.T) {
	compare := func(s string) {
		if got, want := sum.Of(s), remainder(s); got != want {
			t.Fatalf("Of(%q) = %04x, want %04x", s, got, want)
		}
	}
	for a := range 256 {
		compare(string([]byte{byte(a)}))
		for b := range 256 {
			compare(string([]byte{byte(a), byte(b)}))
		}
	}
	text := "bytes that are no text: \xff\xfe\x80\xc3\x28, zeros: \x00\x00, runes: \u00e9\u4e16"
	for i := range len(text) + 1 {
		compare(text[:i])
		compare(text[i:])
		compare(text[i:] + text[:i])
	}
	compare(strings.Repeat(text, 100))
}

func TestP14ASumAppendedGivesZero(t *testing.T) {
	for _, s := range []string{"", "1", "123456789", "\x00\xff", strings.Repeat("\xff", 3500)} {
		n := sum.Of(s)
		if n < 0 || n > 0xffff {
			t.Errorf("Of(%q) = %x, which has more than sixteen bits", s, n)
		}
		if got := sum.Of(s + string([]byte{byte(n >> 8), byte(n)})); got != 0 {
			t.Errorf("Of(%q and its sum) = %04x, want 0", s, got)
		}
	}
}
