package number_test

import (
	"math"
	"testing"

	"annalist/number"
)

func TestNumbers(t *testing.T) {
	for _, x := range []struct {
		n, size int
		want    string
	}{
		{0, 0, ""},
		{0, 1, "\x00"},
		{255, 1, "\xff"},
		{1, 2, "\x00\x01"},
		{256, 2, "\x01\x00"},
		{65535, 2, "\xff\xff"},
		{0, 4, "\x00\x00\x00\x00"},
		{0x01020304, 4, "\x01\x02\x03\x04"},
		{math.MaxInt32, 4, "\x7f\xff\xff\xff"},
		{math.MaxUint32, 4, "\xff\xff\xff\xff"},
	} {
		if got := string(number.Append([]byte("before"), x.n, x.size)); got != "before"+x.want {
			t.Errorf("Append of %d in %d bytes = %q, want %q after before", x.n, x.size, got, x.want)
		}
		if got := number.Of(x.want); got != x.n {
			t.Errorf("Of(%q) = %d, want %d", x.want, got, x.n)
		}
	}
}
