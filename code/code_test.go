package code_test

import (
	"encoding/binary"
	"math"
	"slices"
	"strings"
	"testing"

	"annalist/api"
	"annalist/code"
	"annalist/elem"
)

var (
	badKey = api.Key{Pfs: 16}
	full   = strings.Repeat("v", 40)
	over   = strings.Repeat("v", 41)
)

// encoded lists records and what they are encoded as.
func encoded() []struct {
	e api.Elem
	s string
} {
	return []struct {
		e api.Elem
		s string
	}{
		{api.Elem{Made: 1},
			"\x00" + "\x00\x00\x00\x00" + "\x00\x00\x00\x00" + "\x00\x00\x00\x01" + "\x00\x00\x00\x00" + "\x00"},
		{api.Elem{Key: api.Key{Pfs: 1, Obj: 2, Off: 3}, Made: 4, Gone: 5, Val: "ab"},
			"\x01" + "\x00\x00\x00\x02" + "\x00\x00\x00\x03" + "\x00\x00\x00\x04" + "\x00\x00\x00\x05" + "\x02ab"},
		{api.Elem{Key: api.Key{Pfs: 10, Obj: 0x0f1e2d, Off: 0x3a4b5c6d}, Made: 0x12345678, Gone: 0x7edcba98, Val: "\x00\xff\n\u00e9"},
			"\x0a" + "\x00\x0f\x1e\x2d" + "\x3a\x4b\x5c\x6d" + "\x12\x34\x56\x78" + "\x7e\xdc\xba\x98" + "\x05\x00\xff\n\xc3\xa9"},
		{api.Elem{Key: api.Key{Pfs: 15, Obj: 1 << 20, Off: 1 << 30}, Made: math.MaxInt32 - 1, Gone: math.MaxInt32, Val: full},
			"\x0f" + "\x00\x10\x00\x00" + "\x40\x00\x00\x00" + "\x7f\xff\xff\xfe" + "\x7f\xff\xff\xff" + "\x28" + full},
		{api.Elem{Key: api.Key{Obj: 255, Off: 256}, Made: 65535, Val: "x"},
			"\x00" + "\x00\x00\x00\xff" + "\x00\x00\x01\x00" + "\x00\x00\xff\xff" + "\x00\x00\x00\x00" + "\x01x"},
	}
}

func TestP12Write(t *testing.T) {
	for _, x := range encoded() {
		if got, err := code.Write(x.e); got != x.s || err != api.OK {
			t.Errorf("Write(%v) = %q, %d, want %q, OK", x.e, got, err, x.s)
		}
	}
}

func TestP12LengthOfAnEncoding(t *testing.T) {
	for n := range 41 {
		if got, err := code.Write(api.Elem{Made: 1, Val: full[:n]}); len(got) != 18+n || err != api.OK {
			t.Errorf("a record with %d bytes is encoded in %d, %d", n, len(got), err)
		}
	}
}

func TestP12WriteRejectsRecords(t *testing.T) {
	for _, x := range []struct {
		name string
		e    api.Elem
		want api.Errno
	}{
		{"realm too large", api.Elem{Key: badKey, Made: 1}, api.ErrArg},
		{"realm that wraps around to one byte", api.Elem{Key: api.Key{Pfs: 256}, Made: 1}, api.ErrArg},
		{"negative object", api.Elem{Key: api.Key{Obj: -1}, Made: 1}, api.ErrArg},
		{"object that wraps around to four bytes", api.Elem{Key: api.Key{Obj: math.MinInt}, Made: 1}, api.ErrArg},
		{"offset too large", api.Elem{Key: api.Key{Off: 1<<30 + 1}, Made: 1}, api.ErrArg},
		{"made at 0", api.Elem{}, api.ErrTid},
		{"made after the last time", api.Elem{Made: 1 << 31}, api.ErrTid},
		{"deleted when made", api.Elem{Made: 3, Gone: 3}, api.ErrTid},
		{"deleted before 0", api.Elem{Made: 3, Gone: -1}, api.ErrTid},
		{"deleted after the last time", api.Elem{Made: 3, Gone: 1 << 31}, api.ErrTid},
		{"value too long", api.Elem{Made: 1, Val: over}, api.ErrLarge},
		{"value whose length wraps around to one byte", api.Elem{Made: 1, Val: strings.Repeat("v", 256)}, api.ErrLarge},
		{"key before time", api.Elem{Key: badKey}, api.ErrArg},
		{"key before value", api.Elem{Key: badKey, Made: 1, Val: over}, api.ErrArg},
		{"time before value", api.Elem{Val: over}, api.ErrTid},
	} {
		if got, err := code.Write(x.e); got != "" || err != x.want {
			t.Errorf("%s: Write(%v) = %q, %d, want %d", x.name, x.e, got, err, x.want)
		}
	}
}

func TestP13Get(t *testing.T) {
	for _, x := range encoded() {
		for _, rest := range []string{"", "\x00", "z", x.s, strings.Repeat("\xff", 300)} {
			if e, n, err := code.Get(x.s + rest); e != x.e || n != len(x.s) || err != api.OK {
				t.Errorf("Get(%q) = %v, %d, %d, want %v, %d, OK", x.s+rest, e, n, err, x.e, len(x.s))
			}
		}
	}
}

func TestP13GetOfTooFewBytes(t *testing.T) {
	for _, x := range encoded() {
		for i := range len(x.s) {
			if e, n, err := code.Get(x.s[:i]); e != (api.Elem{}) || n != 0 || err != api.ErrShort {
				t.Errorf("Get(%q) = %v, %d, %d, want ErrShort", x.s[:i], e, n, err)
			}
		}
	}
}

// raw encodes any numbers, also those that Write rejects.
func raw(pfs byte, obj, off, made, gone uint32, size byte, val string) string {
	b := []byte{pfs}
	for _, n := range []uint32{obj, off, made, gone} {
		b = binary.BigEndian.AppendUint32(b, n)
	}
	return string(append(b, size)) + val
}

func TestP13GetReturnsTheFirstError(t *testing.T) {
	for _, x := range []struct {
		name string
		s    string
		want api.Errno
	}{
		{"realm 16", raw(16, 0, 0, 1, 0, 0, ""), api.ErrForm},
		{"realm 255", raw(255, 0, 0, 1, 0, 0, ""), api.ErrForm},
		{"object too large", raw(0, 1<<20+1, 0, 1, 0, 0, ""), api.ErrForm},
		{"greatest object", raw(0, math.MaxUint32, 0, 1, 0, 0, ""), api.ErrForm},
		{"offset too large", raw(0, 0, 1<<30+1, 1, 0, 0, ""), api.ErrForm},
		{"greatest offset", raw(0, 0, math.MaxUint32, 1, 0, 0, ""), api.ErrForm},
		{"made at 0", raw(0, 0, 0, 0, 0, 0, ""), api.ErrForm},
		{"made after the last time", raw(0, 0, 0, 1<<31, 0, 0, ""), api.ErrForm},
		{"made at the greatest number", raw(0, 0, 0, math.MaxUint32, 0, 0, ""), api.ErrForm},
		{"deleted when made", raw(0, 0, 0, 3, 3, 0, ""), api.ErrForm},
		{"deleted before made", raw(0, 0, 0, 3, 2, 0, ""), api.ErrForm},
		{"deleted after the last time", raw(0, 0, 0, 3, 1<<31, 0, ""), api.ErrForm},
		{"deleted at the greatest number", raw(0, 0, 0, 3, math.MaxUint32, 0, ""), api.ErrForm},
		{"value too long", raw(0, 0, 0, 1, 0, 41, over), api.ErrForm},
		{"greatest length", raw(0, 0, 0, 1, 0, 255, strings.Repeat("v", 255)), api.ErrForm},
		{"everything wrong", strings.Repeat("\xff", 18+255), api.ErrForm},
		{"no bytes", "", api.ErrShort},
		{"shortness before realm", raw(16, 0, 0, 1, 0, 0, "")[:17], api.ErrShort},
		{"short value before realm", raw(16, 0, 0, 1, 0, 2, "v"), api.ErrShort},
		{"short value before time", raw(0, 0, 0, 0, 0, 1, ""), api.ErrShort},
		{"short value before its length", raw(0, 0, 0, 1, 0, 41, full), api.ErrShort},
		{"everything wrong, a byte short", strings.Repeat("\xff", 18+254), api.ErrShort},
	} {
		if e, n, err := code.Get(x.s); e != (api.Elem{}) || n != 0 || err != x.want {
			t.Errorf("%s: Get(%q) = %v, %d, %d, want %d", x.name, x.s, e, n, err, x.want)
		}
	}
}

// decode is Get by the library: what the numbers say, without a look at their bounds.
func decode(s string) (api.Elem, int, bool) {
	if len(s) < 18 {
		return api.Elem{}, 0, false
	}
	b := []byte(s)
	size := 18 + int(b[17])
	if len(b) < size {
		return api.Elem{}, 0, false
	}
	number := func(i int) int { return int(binary.BigEndian.Uint32(b[i:])) }
	return api.Elem{
		Key:  api.Key{Pfs: int(b[0]), Obj: number(1), Off: number(5)},
		Made: number(9), Gone: number(13), Val: string(b[18:size]),
	}, size, true
}

// TestP12P13EveryByte gives each byte of an encoding every value:
// there is a record exactly if it is valid, and it is encoded as the bytes that it was decoded from.
func TestP12P13EveryByte(t *testing.T) {
	for _, x := range encoded() {
		b := []byte(x.s + "rest")
		for i := range b {
			for v := range 256 {
				c := slices.Clone(b)
				c[i] = byte(v)
				checkGet(t, string(c))
			}
		}
	}
}

func checkGet(t *testing.T, s string) {
	t.Helper()
	e, n, err := code.Get(s)
	want, size, whole := decode(s)
	switch {
	case !whole:
		want, size = api.Elem{}, 0
		if err != api.ErrShort {
			t.Errorf("Get(%q) returned %d, want ErrShort", s, err)
		}
	case elem.Check(want) != api.OK:
		want, size = api.Elem{}, 0
		if err != api.ErrForm {
			t.Errorf("Get(%q) returned %d, want ErrForm", s, err)
		}
	case err != api.OK:
		t.Errorf("Get(%q) returned %d, want OK", s, err)
	default:
		if back, err := code.Write(e); back != s[:n] || err != api.OK {
			t.Errorf("Write(%v) = %q, %d, want %q, OK", e, back, err, s[:n])
		}
	}
	if e != want || n != size {
		t.Errorf("Get(%q) = %v, %d, want %v, %d", s, e, n, want, size)
	}
}

// together is all records of encoded, in the order given there, and one after another.
func together() ([]api.Elem, string) {
	var l []api.Elem
	var s string
	for _, x := range encoded() {
		l = append(l, x.e)
		s += x.s
	}
	return l, s
}

func TestP13All(t *testing.T) {
	l, s := together()
	backward := slices.Clone(l)
	slices.Reverse(backward)
	var reversed string
	for _, e := range backward {
		x, _ := code.Write(e)
		reversed += x
	}
	for _, x := range []struct {
		name string
		s    string
		want []api.Elem
	}{
		{"none", "", nil},
		{"one", encoded()[1].s, l[1:2]},
		{"several", s, l},
		{"in no order", reversed, backward},
		{"equal ones", encoded()[0].s + encoded()[0].s, []api.Elem{l[0], l[0]}},
		{"more than a run has", strings.Repeat(s, 100), slices.Repeat(l, 100)},
	} {
		if got, err := code.All(x.s); !slices.Equal(got, x.want) || err != api.OK {
			t.Errorf("%s: All(%q) = %v, %d, want %v, OK", x.name, x.s, got, err, x.want)
		}
	}
}

func TestP13AllReturnsTheFirstError(t *testing.T) {
	_, s := together()
	bad := raw(16, 0, 0, 1, 0, 0, "")
	for _, x := range []struct {
		name string
		s    string
		want api.Errno
	}{
		{"a byte", "z", api.ErrShort},
		{"a byte after records", s + "z", api.ErrShort},
		{"seventeen bytes after records", s + s[:17], api.ErrShort},
		{"a byte too few", s[:len(s)-1], api.ErrShort},
		{"first record", bad + s, api.ErrForm},
		{"between records", s + bad + s, api.ErrForm},
		{"last record", s + bad, api.ErrForm},
		{"record before a byte", s + bad + "z", api.ErrForm},
		{"record that is short and bad", s + raw(16, 0, 0, 1, 0, 1, ""), api.ErrShort},
	} {
		if got, err := code.All(x.s); len(got) != 0 || err != x.want {
			t.Errorf("%s: All(%q) = %v, %d, want %d", x.name, x.s, got, err, x.want)
		}
	}
	ends := map[int]bool{0: true}
	end := 0
	for _, x := range encoded() {
		end += len(x.s)
		ends[end] = true
	}
	for i := range len(s) + 1 {
		want := api.ErrShort
		if ends[i] {
			want = api.OK
		}
		if got, err := code.All(s[:i]); err != want || err != api.OK && len(got) != 0 {
			t.Errorf("All(%q) = %v, %d, want %d", s[:i], got, err, want)
		}
	}
}

func TestP2ResultsOfAllShareNothing(t *testing.T) {
	want, s := together()
	mark := api.Elem{Made: 66, Val: "overwritten"}
	first, _ := code.All(s)
	second, _ := code.All(s)
	all := first[:cap(first)]
	for i := range all {
		all[i] = mark
	}
	if !slices.Equal(second, want) || slices.Contains(second[:cap(second)], mark) {
		t.Errorf("two results of All(%q) share memory: %v", s, second[:cap(second)])
	}
}
