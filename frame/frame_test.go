package frame_test

import (
	"math"
	"slices"
	"strings"
	"testing"

	"annalist/api"
	"annalist/frame"
)

var (
	full = strings.Repeat("v", 3000)
	over = strings.Repeat("v", 3001)
)

// framed lists bodies with kinds, and their frames. The checksums are written out,
// among them such as have a byte 0, or no bit in common with each other.
func framed() []struct {
	f api.Frame
	s string
} {
	return []struct {
		f api.Frame
		s string
	}{
		{api.Frame{Kind: 2, Body: "ab"}, "\x02\x00\x02ab\x5e\x1c"},
		{api.Frame{Kind: 1}, "\x01\x00\x00\x37\x30"},
		{api.Frame{Kind: 255}, "\xff\x00\x00\xcf\x63"},
		{api.Frame{Kind: 7, Body: "\x00"}, "\x07\x00\x01\x00\x62\x1c"},
		{api.Frame{Kind: 1, Body: "\xff\x00\n\u00e9"}, "\x01\x00\x05\xff\x00\n\xc3\xa9\xfe\x78"},
		{api.Frame{Kind: '1', Body: "123456789"}, "1\x00\x09123456789\x4e\x48"},
		{api.Frame{Kind: 1, Body: "\x17r"}, "\x01\x00\x02\x17r\x00\x00"},
		{api.Frame{Kind: 1, Body: "\t\x81"}, "\x01\x00\x02\t\x81\xff\x00"},
		{api.Frame{Kind: 1, Body: "\x8dN"}, "\x01\x00\x02\x8dN\x00\xff"},
		{api.Frame{Kind: 255, Body: full[:255]}, "\xff\x00\xff" + full[:255] + "\xda\x59"},
		{api.Frame{Kind: 128, Body: full[:256]}, "\x80\x01\x00" + full[:256] + "\xce\x1c"},
		{api.Frame{Kind: 3, Body: full}, "\x03\x0b\xb8" + full + "\x6a\x5d"},
	}
}

// short cuts a long string for a message.
func short(s string) string {
	return s[:min(len(s), 40)]
}

func TestP15Put(t *testing.T) {
	for _, x := range framed() {
		if got, err := frame.Put(x.f); got != x.s || err != api.OK {
			t.Errorf("Put(%d, %q) = %q, %d, want %q, OK", x.f.Kind, short(x.f.Body), short(got), err, short(x.s))
		}
	}
}

func TestP15LengthOfAFrame(t *testing.T) {
	for _, n := range []int{0, 1, 2, 40, 255, 256, 257, 2999, 3000} {
		if got, err := frame.Put(api.Frame{Kind: 1, Body: full[:n]}); len(got) != n+5 || err != api.OK {
			t.Errorf("a body of %d bytes gives a frame of %d, %d", n, len(got), err)
		}
	}
}

func TestP15PutRejectsKindsAndBodies(t *testing.T) {
	for _, x := range []struct {
		name string
		f    api.Frame
		want api.Errno
	}{
		{"nothing", api.Frame{}, api.ErrArg},
		{"kind 0", api.Frame{Body: "ab"}, api.ErrArg},
		{"kind -1", api.Frame{Kind: -1, Body: "ab"}, api.ErrArg},
		{"kind 256", api.Frame{Kind: 256, Body: "ab"}, api.ErrArg},
		{"kind that wraps around to one byte", api.Frame{Kind: 257}, api.ErrArg},
		{"negative kind that wraps around", api.Frame{Kind: -255}, api.ErrArg},
		{"least kind", api.Frame{Kind: math.MinInt}, api.ErrArg},
		{"greatest kind", api.Frame{Kind: math.MaxInt}, api.ErrArg},
		{"3001 bytes", api.Frame{Kind: 1, Body: over}, api.ErrLarge},
		{"length that wraps around to two bytes", api.Frame{Kind: 255, Body: strings.Repeat("v", 1<<16+2)}, api.ErrLarge},
		{"kind 0 before body", api.Frame{Body: over}, api.ErrArg},
		{"kind 256 before body", api.Frame{Kind: 256, Body: over}, api.ErrArg},
	} {
		if got, err := frame.Put(x.f); got != "" || err != x.want {
			t.Errorf("%s: Put = %q, %d, want %d", x.name, short(got), err, x.want)
		}
	}
}

func TestP15P16EveryKind(t *testing.T) {
	for kind := -300; kind <= 600; kind++ {
		f := api.Frame{Kind: kind, Body: "body"}
		s, err := frame.Put(f)
		if kind < 1 || kind > 255 {
			if s != "" || err != api.ErrArg {
				t.Errorf("Put(%v) = %q, %d, want ErrArg", f, s, err)
			}
			continue
		}
		if got, n, err := frame.Get(s); got != f || n != 9 || err != api.OK {
			t.Errorf("Get(%q) = %v, %d, %d, want %v, 9, OK", s, got, n, err, f)
		}
	}
}

func TestP16Get(t *testing.T) {
	for _, x := range framed() {
		for _, rest := range []string{"", "\x00", "z", x.s, strings.Repeat("\xff", 4000)} {
			if f, n, err := frame.Get(x.s + rest); f != x.f || n != len(x.s) || err != api.OK {
				t.Errorf("Get(%q) = %d, %q, %d, %d, want the frame of %d bytes", short(x.s+rest), f.Kind, short(f.Body), n, err, len(x.s))
			}
		}
	}
}

func TestP16GetOfTooFewBytes(t *testing.T) {
	for _, x := range framed() {
		for i := range len(x.s) {
			if f, n, err := frame.Get(x.s[:i]); f != (api.Frame{}) || n != 0 || err != api.ErrShort {
				t.Errorf("Get of %d bytes of %q = %d, %q, %d, %d, want ErrShort", i, short(x.s), f.Kind, short(f.Body), n, err)
			}
		}
	}
}

// remainder is the checksum of s by another definition:
// the bits of s, followed by sixteen zeros, divided by the polynomial 11021 (hexadecimal).
func remainder(s string) int {
	rest := 0
	for _, b := range []byte(s + "\x00\x00") {
		for bit := 7; bit >= 0; bit-- {
			rest = rest<<1 | int(b>>bit)&1
			if rest >= 1<<16 {
				rest ^= 0x11021
			}
		}
	}
	return rest
}

// sealed is s with its checksum, whatever s is.
func sealed(s string) string {
	n := remainder(s)
	return s + string([]byte{byte(n >> 8), byte(n)})
}

func TestP16GetReturnsTheFirstError(t *testing.T) {
	for _, x := range []struct {
		name string
		s    string
		want api.Errno
	}{
		{"no bytes", "", api.ErrShort},
		{"four bytes", "\x01\x00\x00\x37", api.ErrShort},
		{"four bytes of kind 0", "\x00\x00\x00\x00", api.ErrShort},
		{"four bytes with a great length", "\x01\xff\xff\xff", api.ErrShort},

		{"kind 0 with its checksum", "\x00\x00\x00\x00\x00", api.ErrForm},
		{"kind 0 with a body and its checksum", sealed("\x00\x00\x02ab"), api.ErrForm},
		{"kind 0 before shortness", "\x00\x00\x02ab", api.ErrForm},
		{"kind 0 before checksum", "\x00\x00\x02abcd", api.ErrForm},
		{"3001 bytes with their checksum", sealed("\x01\x0b\xb9" + over), api.ErrForm},
		{"3001 bytes with a wrong checksum", "\x01\x0b\xb9" + over + "zz", api.ErrForm},
		{"3001 bytes before shortness", "\x01\x0b\xb9" + full + "zz", api.ErrForm},
		{"greatest length", "\x01\xff\xff" + strings.Repeat("v", 1<<16+1), api.ErrForm},
		{"greatest length before shortness", "\x01\xff\xff\x00\x00", api.ErrForm},
		{"everything wrong", strings.Repeat("\xff", 5), api.ErrForm},

		{"no checksum", "\x01\x00\x02ab", api.ErrShort},
		{"half a checksum", "\x02\x00\x02ab\x5e", api.ErrShort},
		{"half a body", "\x02\x00\x04ab\x5e\x1c", api.ErrShort},
		{"3000 bytes, no checksum", "\x03\x0b\xb8" + full, api.ErrShort},
		{"3000 bytes, half a checksum", "\x03\x0b\xb8" + full + "\x6a", api.ErrShort},
		{"shortness before checksum", "\x02\x00\x03abcd", api.ErrShort},

		{"checksum 0", "\x02\x00\x02ab\x00\x00", api.ErrSum},
		{"checksum with its bytes exchanged", "\x02\x00\x02ab\x1c\x5e", api.ErrSum},
		{"checksum of another kind", "\x03\x00\x02ab\x5e\x1c", api.ErrSum},
		{"checksum of another body", "\x02\x00\x02ac\x5e\x1c", api.ErrSum},
		{"checksum of the body alone", "\x02\x00\x02ab" + sealed("ab")[2:], api.ErrSum},
		{"3000 bytes with a wrong checksum", "\x03\x0b\xb8" + full + "\x6a\x5c", api.ErrSum},
		{"wrong checksum before a frame", "\x02\x00\x02ab\x5e\x1d" + "\x02\x00\x02ab\x5e\x1c", api.ErrSum},
	} {
		if f, n, err := frame.Get(x.s); f != (api.Frame{}) || n != 0 || err != x.want {
			t.Errorf("%s: Get(%q) = %d, %q, %d, %d, want %d", x.name, short(x.s), f.Kind, short(f.Body), n, err, x.want)
		}
	}
}

// decode says what Get must return for s.
func decode(s string) (api.Frame, int, api.Errno) {
	if len(s) < 5 {
		return api.Frame{}, 0, api.ErrShort
	}
	size := int(s[1])*256 + int(s[2])
	switch {
	case s[0] == 0 || size > 3000:
		return api.Frame{}, 0, api.ErrForm
	case len(s) < size+5:
		return api.Frame{}, 0, api.ErrShort
	case sealed(s[:size+3]) != s[:size+5]:
		return api.Frame{}, 0, api.ErrSum
	}
	return api.Frame{Kind: int(s[0]), Body: s[3 : size+3]}, size + 5, api.OK
}

// TestP15P16EveryByte gives each byte of a frame, unless it is a long one, every value:
// what Get accepts is what Put makes of its result.
func TestP15P16EveryByte(t *testing.T) {
	for _, x := range framed() {
		if len(x.s) > 100 {
			continue
		}
		for _, rest := range []string{"", "rest"} {
			b := []byte(x.s + rest)
			for i := range b {
				for v := range 256 {
					c := slices.Clone(b)
					c[i] = byte(v)
					checkGet(t, string(c))
				}
			}
		}
	}
}

func checkGet(t *testing.T, s string) {
	t.Helper()
	f, n, err := frame.Get(s)
	if want, size, wrong := decode(s); f != want || n != size || err != wrong {
		t.Fatalf("Get(%q) = %d, %q, %d, %d, want %d, %q, %d, %d", s, f.Kind, f.Body, n, err, want.Kind, want.Body, size, wrong)
	}
	if err != api.OK {
		return
	}
	if back, err := frame.Put(f); back != s[:n] || err != api.OK {
		t.Fatalf("Put(%d, %q) = %q, %d, want %q, OK", f.Kind, f.Body, back, err, s[:n])
	}
}

// TestP16EveryChangedByteIsFound changes a bit in each byte, also in those of a body of the greatest length.
func TestP16EveryChangedByteIsFound(t *testing.T) {
	for _, x := range framed() {
		for i := range len(x.s) {
			b := []byte(x.s)
			b[i] ^= 1 << (i % 8)
			if f, n, err := frame.Get(string(b)); f != (api.Frame{}) || n != 0 || err == api.OK {
				t.Fatalf("byte %d of %q is changed: Get = %d, %d, %d", i, short(x.s), f.Kind, n, err)
			}
		}
	}
}

func TestP16FramesOneAfterAnother(t *testing.T) {
	var s string
	for _, x := range framed() {
		s += x.s
	}
	for _, x := range framed() {
		f, n, err := frame.Get(s)
		if f != x.f || n != len(x.s) || err != api.OK {
			t.Fatalf("Get(%q) = %d, %q, %d, %d, want the frame %q", short(s), f.Kind, short(f.Body), n, err, short(x.s))
		}
		s = s[n:]
	}
	if _, _, err := frame.Get(s); s != "" || err != api.ErrShort {
		t.Errorf("after all frames there is %q, %d", short(s), err)
	}
}
