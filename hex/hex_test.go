package hex_test

import (
	"fmt"
	"testing"

	"annalist/hex"
)

// TestBytes gives each byte digits, and reads them again, with and without something after them.
func TestBytes(t *testing.T) {
	for c := range 256 {
		want := fmt.Sprintf("%02x", c)
		if got := hex.Of(byte(c)); got != want {
			t.Errorf("Of(%d) = %q, want %q", c, got, want)
		}
		for _, s := range []string{want, want + "0", want + "g", want + "\xff"} {
			if got, is := hex.Get(s); got != byte(c) || !is {
				t.Errorf("Get(%q) = %d, %t, want %d", s, got, is, c)
			}
		}
	}
}

// TestOthers looks at everything of up to two bytes: what no byte is written as is not read.
func TestOthers(t *testing.T) {
	written := map[string]bool{}
	for c := range 256 {
		written[fmt.Sprintf("%02x", c)] = true
	}
	others := []string{"", "A0", "aF", "g0", "0G", "-1", "+1", " 1", "0x"}
	for a := range 256 {
		others = append(others, string([]byte{byte(a)}))
		for b := range 256 {
			if s := string([]byte{byte(a), byte(b)}); !written[s] {
				others = append(others, s)
			}
		}
	}
	for _, s := range others {
		if got, is := hex.Get(s); got != 0 || is {
			t.Errorf("Get(%q) = %d, %t, want none", s, got, is)
		}
	}
}
