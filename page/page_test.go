package page_test

import (
	"encoding/binary"
	"math"
	"slices"
	"strings"
	"testing"

	"annalist/api"
	"annalist/code"
	"annalist/frame"
	"annalist/node"
	"annalist/page"
)

var (
	badKey = api.Key{Pfs: 16}
	full   = strings.Repeat("v", 40)
	over   = strings.Repeat("v", 41)
)

// rec is a record that is valid if its numbers are.
func rec(off, made, gone int) api.Elem {
	return api.Elem{Key: api.Key{Off: off}, Made: made, Gone: gone, Val: "v"}
}

// recs returns n records in order, with values of the greatest length.
func recs(n int) []api.Elem {
	var l []api.Elem
	for i := range n {
		l = append(l, api.Elem{Key: api.Key{Pfs: 3, Obj: i}, Made: i + 1, Val: full})
	}
	return l
}

// leaf is a leaf with these records.
func leaf(l ...api.Elem) api.Node {
	return api.Node{Kind: api.Leaf, Elems: l}
}

// inner is an inner node with n children, numbered from 250, and separators at 10, 20 and so on.
func inner(n int) api.Node {
	x := api.Node{Kind: api.Inner}
	for i := range n {
		if i > 0 {
			x.Seps = append(x.Seps, api.Spot{Key: api.Key{Off: 10 * i}, Made: 70 + i})
		}
		x.Kids = append(x.Kids, 250+i)
		x.Tids = append(x.Tids, 65530+i)
	}
	return x
}

// changed is an inner node with n children after a change.
func changed(n int, change func(x *api.Node)) api.Node {
	x := inner(n)
	change(&x)
	return x
}

// equal compares nodes field by field.
func equal(m, n api.Node) bool {
	return m.Kind == n.Kind && slices.Equal(m.Elems, n.Elems) && slices.Equal(m.Kids, n.Kids) &&
		slices.Equal(m.Seps, n.Seps) && slices.Equal(m.Tids, n.Tids)
}

// remainder is the checksum of s by another definition:
// the bits of s, followed by sixteen zeros, divided by the polynomial 11021 (hexadecimal).
func remainder(s string) int {
	rest := 0
	for _, b := range []byte(s + "\x00\x00") {
		for bit := 7; bit >= 0; bit-- {
			rest = rest<<1 | int(b>>bit)&1
			if rest >= 1<<16 {
				rest ^= 0x11021
			}
		}
	}
	return rest
}

// sealed is a frame of any kind and length.
func sealed(kind byte, body string) string {
	s := string([]byte{kind, byte(len(body) >> 8), byte(len(body))}) + body
	n := remainder(s)
	return s + string([]byte{byte(n >> 8), byte(n)})
}

// encoding is a node, the kind of its frame, and its body.
type encoding struct {
	n    api.Node
	kind byte
	body string
}

// encoded lists nodes and what they are encoded as.
func encoded() []encoding {
	return []encoding{
		{api.Node{}, 1, ""},
		{leaf(), 2, ""},
		{leaf(api.Elem{Made: 1}), 2,
			"\x00" + "\x00\x00\x00\x00" + "\x00\x00\x00\x00" + "\x00\x00\x00\x01" + "\x00\x00\x00\x00" + "\x00"},
		{leaf(
			api.Elem{Key: api.Key{Pfs: 1, Obj: 2, Off: 3}, Made: 4, Gone: 5, Val: "ab"},
			api.Elem{Key: api.Key{Pfs: 1, Obj: 2, Off: 3}, Made: 7},
			api.Elem{Key: api.Key{Pfs: 10, Obj: 0x0f1e2d, Off: 0x3a4b5c6d}, Made: 0x12345678, Gone: 0x7edcba98, Val: "\x00\xff"}), 2,
			"\x01" + "\x00\x00\x00\x02" + "\x00\x00\x00\x03" + "\x00\x00\x00\x04" + "\x00\x00\x00\x05" + "\x02ab" +
				"\x01" + "\x00\x00\x00\x02" + "\x00\x00\x00\x03" + "\x00\x00\x00\x07" + "\x00\x00\x00\x00" + "\x00" +
				"\x0a" + "\x00\x0f\x1e\x2d" + "\x3a\x4b\x5c\x6d" + "\x12\x34\x56\x78" + "\x7e\xdc\xba\x98" + "\x02\x00\xff"},
		{api.Node{
			Kind: api.Inner,
			Kids: []int{3, 4},
			Seps: []api.Spot{{Key: api.Key{Off: 5}, Made: 1}},
			Tids: []int{8, 0}}, 3,
			"\x00\x03" + "\x00\x00\x00\x08" +
				"\x00\x04" + "\x00\x00\x00\x00" +
				"\x00" + "\x00\x00\x00\x00" + "\x00\x00\x00\x05" + "\x00\x00\x00\x01" + "\x00\x00\x00\x00" + "\x00"},
		{api.Node{
			Kind: api.Inner,
			Kids: []int{399, 0, 256},
			Seps: []api.Spot{
				{Key: api.Key{Pfs: 1, Obj: 0x0f1e2d, Off: 0x3a4b5c6d}, Made: 0x12345678},
				{Key: api.Key{Pfs: 15, Obj: 1 << 20, Off: 1 << 30}, Made: math.MaxInt32}},
			Tids: []int{math.MaxInt32, 0x01020304, 0}}, 3,
			"\x01\x8f" + "\x7f\xff\xff\xff" +
				"\x00\x00" + "\x01\x02\x03\x04" +
				"\x01" + "\x00\x0f\x1e\x2d" + "\x3a\x4b\x5c\x6d" + "\x12\x34\x56\x78" + "\x00\x00\x00\x00" + "\x00" +
				"\x01\x00" + "\x00\x00\x00\x00" +
				"\x0f" + "\x00\x10\x00\x00" + "\x40\x00\x00\x00" + "\x7f\xff\xff\xff" + "\x00\x00\x00\x00" + "\x00"},
	}
}

func TestP20Write(t *testing.T) {
	for _, x := range encoded() {
		want := sealed(x.kind, x.body)
		if got, err := page.Write(x.n); got != want || err != api.OK {
			t.Errorf("Write(%v) = %q, %d, want %q, OK", x.n, got, err, want)
		}
	}
	if got, err := page.Write(api.Node{}); got != "\x01\x00\x00\x37\x30" || err != api.OK {
		t.Errorf("a free node is encoded as %q, %d", got, err)
	}
}

func TestP20LengthOfAnEncoding(t *testing.T) {
	for n := range 9 {
		if s, err := page.Write(leaf(recs(n)...)); len(s) != 5+58*n || err != api.OK {
			t.Errorf("a leaf with %d records is encoded in %d bytes, %d", n, len(s), err)
		}
		if n < 2 {
			continue
		}
		if s, err := page.Write(inner(n)); len(s) != 5+24*n-18 || err != api.OK {
			t.Errorf("an inner node with %d children is encoded in %d bytes, %d", n, len(s), err)
		}
	}
}

func TestP20WriteReturnsTheErrorOfCheck(t *testing.T) {
	for _, x := range []struct {
		name string
		n    api.Node
		want api.Errno
	}{
		{"kind 3", api.Node{Kind: 3}, api.ErrForm},
		{"kind -1", api.Node{Kind: -1}, api.ErrForm},
		{"kind that wraps around to a byte", api.Node{Kind: 256}, api.ErrForm},
		{"least kind", api.Node{Kind: math.MinInt}, api.ErrForm},
		{"greatest kind", api.Node{Kind: math.MaxInt}, api.ErrForm},
		{"free with records", api.Node{Elems: recs(1)}, api.ErrForm},
		{"free with children", api.Node{Kids: []int{1}}, api.ErrForm},
		{"leaf with children", api.Node{Kind: api.Leaf, Elems: recs(1), Kids: []int{1}}, api.ErrForm},
		{"leaf with separators", api.Node{Kind: api.Leaf, Seps: []api.Spot{{Made: 1}}}, api.ErrForm},
		{"nine records", leaf(recs(9)...), api.ErrLarge},
		{"many records", leaf(recs(1000)...), api.ErrLarge},
		{"bad key", leaf(api.Elem{Key: badKey, Made: 1}), api.ErrArg},
		{"bad time", leaf(rec(1, 0, 0)), api.ErrTid},
		{"long value", leaf(api.Elem{Made: 1, Val: over}), api.ErrLarge},
		{"equal spots", leaf(rec(1, 1, 0), rec(1, 1, 0)), api.ErrForm},
		{"one child", inner(1), api.ErrForm},
		{"nine children", inner(9), api.ErrLarge},
		{"a time too few", changed(3, func(x *api.Node) { x.Tids = x.Tids[:2] }), api.ErrForm},
		{"a separator too many", changed(2, func(x *api.Node) { x.Seps = append(x.Seps, api.Spot{Key: api.Key{Obj: 1}, Made: 1}) }), api.ErrForm},
		{"child 400", changed(2, func(x *api.Node) { x.Kids[1] = 400 }), api.ErrArg},
		{"child -1", changed(2, func(x *api.Node) { x.Kids[0] = -1 }), api.ErrArg},
		{"child that wraps around to two bytes", changed(2, func(x *api.Node) { x.Kids[0] = 1<<16 + 1 }), api.ErrArg},
		{"time -1", changed(2, func(x *api.Node) { x.Tids[0] = -1 }), api.ErrTid},
		{"time after the last one", changed(2, func(x *api.Node) { x.Tids[1] = 1 << 31 }), api.ErrTid},
		{"bad key of a separator", changed(2, func(x *api.Node) { x.Seps[0].Key = badKey }), api.ErrArg},
		{"bad time of a separator", changed(2, func(x *api.Node) { x.Seps[0].Made = 0 }), api.ErrTid},
		{"separators in reverse", changed(3, func(x *api.Node) { slices.Reverse(x.Seps) }), api.ErrForm},
	} {
		if got, err := page.Write(x.n); got != "" || err != x.want {
			t.Errorf("%s: Write(%v) = %q, %d, want %d", x.name, x.n, got, err, x.want)
		}
	}
}

// nodes returns nodes of every kind and size.
func nodes() []api.Node {
	l := []api.Node{{}}
	for _, x := range encoded() {
		l = append(l, x.n)
	}
	for n := range 9 {
		l = append(l, leaf(recs(n)...))
		if n >= 2 {
			l = append(l, inner(n))
		}
	}
	return append(l,
		leaf(rec(1, 1, 0), rec(1, 3, 0), rec(1, 4, 9), rec(1, 5, 6)),
		changed(4, func(x *api.Node) { x.Kids = []int{7, 7, 7, 7} }),
		changed(8, func(x *api.Node) { x.Tids = make([]int, 8) }))
}

func TestP21ReadReturnsWhatWasWritten(t *testing.T) {
	for _, n := range nodes() {
		s, err := page.Write(n)
		if err != api.OK {
			t.Fatalf("Write(%v) returned %d", n, err)
		}
		if got, err := page.Read(s); !equal(got, n) || err != api.OK {
			t.Errorf("Read(%q) = %v, %d, want %v, OK", s, got, err, n)
		}
	}
}

// rejected tries Read on a string that is not the encoding of a node.
func rejected(t *testing.T, name, s string, want api.Errno) {
	t.Helper()
	if n, err := page.Read(s); !equal(n, api.Node{}) || err != want {
		t.Errorf("%s: Read(%q) = %v, %d, want %d", name, s, n, err, want)
	}
}

func TestP21ReadOfTooFewOrTooManyBytes(t *testing.T) {
	for _, n := range nodes() {
		s, _ := page.Write(n)
		for i := range len(s) {
			rejected(t, "bytes are missing", s[:i], api.ErrShort)
		}
		for _, rest := range []string{"\x00", "x", "\xff", s, strings.Repeat("z", 5000)} {
			rejected(t, "bytes follow", s+rest, api.ErrForm)
		}
	}
}

func TestP21ReadReturnsTheErrorOfTheFrameFirst(t *testing.T) {
	rejected(t, "no bytes", "", api.ErrShort)
	rejected(t, "four bytes", "\x01\x00\x00\x37", api.ErrShort)
	rejected(t, "four bytes of kind 0", "\x00\x00\x00\x00", api.ErrShort)
	rejected(t, "kind 0", "\x00\x00\x00\x00\x00", api.ErrForm)
	rejected(t, "kind 0 before shortness", "\x00\x00\x02ab", api.ErrForm)
	rejected(t, "length 3001", sealed(2, strings.Repeat("v", 3001)), api.ErrForm)
	rejected(t, "wrong checksum", "\x01\x00\x00\x37\x31", api.ErrSum)
	rejected(t, "wrong checksum before kind 4", "\x04\x00\x00\x37\x30", api.ErrSum)
	rejected(t, "wrong checksum before contents", "\x03\x00\x02ab\x00\x00", api.ErrSum)
	rejected(t, "wrong checksum before more bytes", "\x01\x00\x00\x37\x31x", api.ErrSum)
	rejected(t, "shortness before kind 4", "\x04\x00\x02ab", api.ErrShort)
	rejected(t, "shortness before checksum", "\x01\x00\x03ab\x00", api.ErrShort)
}

// raw encodes a record of any numbers, also those that code.Write rejects.
func raw(pfs byte, obj, off, made, gone uint32, val string) string {
	b := []byte{pfs}
	for _, n := range []uint32{obj, off, made, gone} {
		b = binary.BigEndian.AppendUint32(b, n)
	}
	return string(append(b, byte(len(val)))) + val
}

// rawKid encodes the number of a child and its Tid.
func rawKid(kid uint16, tid uint32) string {
	b := binary.BigEndian.AppendUint16(nil, kid)
	return string(binary.BigEndian.AppendUint32(b, tid))
}

func TestP21ReadRejectsFramesWithoutANode(t *testing.T) {
	ok := raw(0, 0, 10, 1, 0, "")
	for _, x := range []struct {
		name string
		kind byte
		body string
	}{
		{"free node with a byte", 1, "\x00"},
		{"free node with a record", 1, ok},

		{"a byte of a record", 2, "\x00"},
		{"half a record after records", 2, ok + raw(0, 0, 11, 1, 0, "") + ok[:9]},
		{"value too short", 2, ok + ok[:17] + "\x01"},
		{"byte after a record", 2, ok + "\x00"},
		{"nine records", 2, longBody(9)},
		{"greatest body", 2, longBody(51) + raw(1, 0, 0, 1, 0, "")[:17] + "\x18" + over[:24]},
		{"records in reverse", 2, raw(0, 0, 11, 1, 0, "") + ok},
		{"equal spots", 2, ok + ok},
		{"realm 16", 2, raw(16, 0, 0, 1, 0, "")},
		{"object too large", 2, raw(0, 1<<20+1, 0, 1, 0, "")},
		{"offset too large", 2, raw(0, 0, 1<<30+1, 1, 0, "")},
		{"made at 0", 2, raw(0, 0, 0, 0, 0, "")},
		{"made after the last time", 2, raw(0, 0, 0, 1<<31, 0, "")},
		{"deleted when made", 2, raw(0, 0, 0, 3, 3, "")},
		{"value too long", 2, raw(0, 0, 0, 1, 0, over)},
		{"contents of an inner node", 2, rawKid(3, 8) + rawKid(4, 0) + ok},

		{"no children", 3, ""},
		{"one child", 3, rawKid(3, 8)},
		{"a byte of a child", 3, "\x00"},
		{"half a child", 3, rawKid(3, 8)[:3]},
		{"half a child after the first", 3, rawKid(3, 8) + rawKid(4, 0)[:5]},
		{"child without separator", 3, rawKid(3, 8) + rawKid(4, 0)},
		{"half a separator", 3, rawKid(3, 8) + rawKid(4, 0) + ok[:17]},
		{"byte after the last separator", 3, rawKid(3, 8) + rawKid(4, 0) + ok + "\x00"},
		{"last child without separator", 3, rawKid(3, 8) + rawKid(4, 0) + ok + rawKid(5, 0)},
		{"separator after the first child", 3, rawKid(3, 8) + ok + rawKid(4, 0)},
		{"separator after each child", 3, rawKid(3, 8) + ok + rawKid(4, 0) + raw(0, 0, 11, 1, 0, "")},
		{"separators after the children", 3, rawKid(3, 8) + rawKid(4, 0) + rawKid(5, 0) + ok + raw(0, 0, 11, 1, 0, "")},
		{"nine children", 3, manyKids(9)},
		{"125 children", 3, manyKids(125)},
		{"child 400", 3, rawKid(400, 8) + rawKid(4, 0) + ok},
		{"greatest child", 3, rawKid(3, 8) + rawKid(math.MaxUint16, 0) + ok},
		{"time after the last one", 3, rawKid(3, 1<<31) + rawKid(4, 0) + ok},
		{"greatest time", 3, rawKid(3, 8) + rawKid(4, math.MaxUint32) + ok},
		{"bad separator", 3, rawKid(3, 8) + rawKid(4, 0) + raw(16, 0, 0, 1, 0, "")},
		{"separator made at 0", 3, rawKid(3, 8) + rawKid(4, 0) + raw(0, 0, 10, 0, 0, "")},
		{"deleted separator", 3, rawKid(3, 8) + rawKid(4, 0) + raw(0, 0, 10, 1, 2, "")},
		{"separator with a value", 3, rawKid(3, 8) + rawKid(4, 0) + raw(0, 0, 10, 1, 0, "v")},
		{"equal separators", 3, rawKid(3, 8) + rawKid(4, 0) + ok + rawKid(5, 0) + ok},
		{"separators in reverse", 3, rawKid(3, 8) + rawKid(4, 0) + ok + rawKid(5, 0) + raw(0, 0, 9, 1, 0, "")},
		{"contents of a leaf", 3, ok},
	} {
		s := sealed(x.kind, x.body)
		if _, _, err := frame.Get(s); err != api.OK {
			t.Fatalf("%s: the frame %q is not valid: %d", x.name, s, err)
		}
		rejected(t, x.name, s, api.ErrForm)
	}
}

// longBody encodes n records in order.
func longBody(n int) string {
	var s string
	for _, e := range recs(n) {
		x, _ := code.Write(e)
		s += x
	}
	return s
}

// manyKids encodes n children, also more than eight.
func manyKids(n int) string {
	s := rawKid(0, 0)
	for i := 1; i < n; i++ {
		s += rawKid(uint16(i), 0) + raw(0, 0, uint32(i), 1, 0, "")
	}
	return s
}

func TestP21EveryKindOfFrame(t *testing.T) {
	bodies := []string{""}
	for _, x := range encoded() {
		bodies = append(bodies, x.body)
	}
	for kind := 1; kind < 256; kind++ {
		for _, body := range bodies {
			checkRead(t, byte(kind), body)
		}
	}
}

// decode says which node a frame contains, by the places of its parts alone.
func decode(kind byte, body string) (api.Node, bool) {
	n := api.Node{Kind: int(kind) - 1}
	switch kind {
	case 1:
		return n, body == ""
	case 2:
		l, err := code.All(body)
		n.Elems = l
		return n, err == api.OK && node.Check(n) == api.OK
	case 3:
		if len(body)%24 != 6 {
			return n, false
		}
		b := []byte(body)
		for i := 0; i < len(b); i += 24 {
			n.Kids = append(n.Kids, int(binary.BigEndian.Uint16(b[max(i-18, 0):])))
			n.Tids = append(n.Tids, int(binary.BigEndian.Uint32(b[max(i-16, 2):])))
			if i == 0 {
				continue
			}
			sep := b[i-12:]
			s := api.Spot{Made: int(binary.BigEndian.Uint32(sep[9:]))}
			s.Key = api.Key{Pfs: int(sep[0]), Obj: int(binary.BigEndian.Uint32(sep[1:])), Off: int(binary.BigEndian.Uint32(sep[5:]))}
			n.Seps = append(n.Seps, s)
			if string(sep[13:18]) != "\x00\x00\x00\x00\x00" {
				return n, false
			}
		}
		return n, node.Check(n) == api.OK
	}
	return n, false
}

// checkRead compares Read of a frame with decode. What is read is written as the same frame.
func checkRead(t *testing.T, kind byte, body string) {
	t.Helper()
	s := sealed(kind, body)
	got, err := page.Read(s)
	want, found := decode(kind, body)
	if !found {
		if !equal(got, api.Node{}) || err != api.ErrForm {
			t.Fatalf("Read(%q) = %v, %d, want ErrForm", s, got, err)
		}
		return
	}
	if !equal(got, want) || err != api.OK {
		t.Fatalf("Read(%q) = %v, %d, want %v, OK", s, got, err, want)
	}
	if back, err := page.Write(got); back != s || err != api.OK {
		t.Fatalf("Write(%v) = %q, %d, want %q, OK", got, back, err, s)
	}
}

// TestP20P21EveryByte gives each byte of a body every value, in a frame that is valid nevertheless.
func TestP20P21EveryByte(t *testing.T) {
	for _, x := range encoded() {
		for i := range len(x.body) {
			for v := range 256 {
				b := []byte(x.body)
				b[i] = byte(v)
				checkRead(t, x.kind, string(b))
			}
		}
	}
}

// TestP21BodiesOfEveryLength shortens and lengthens bodies, in frames that are valid nevertheless.
func TestP21BodiesOfEveryLength(t *testing.T) {
	for _, n := range nodes() {
		s, _ := page.Write(n)
		body := s[3 : len(s)-2]
		for kind := byte(1); kind <= 4; kind++ {
			for i := range len(body) + 1 {
				checkRead(t, kind, body[:i])
				checkRead(t, kind, body[i:])
			}
			for _, rest := range []string{"\x00", body, rawKid(1, 1), raw(15, 0, 0, 1, 0, ""), rawKid(1, 1) + raw(15, 0, 0, 1, 0, "")} {
				checkRead(t, kind, body+rest)
				checkRead(t, kind, rest+body)
			}
		}
	}
}

// TestP21EveryChangedByteIsFound changes a byte of an encoding without changing the checksum.
func TestP21EveryChangedByteIsFound(t *testing.T) {
	for _, n := range nodes() {
		s, _ := page.Write(n)
		for i := range len(s) {
			b := []byte(s)
			b[i] ^= 1 << (i % 8)
			_, _, want := frame.Get(string(b))
			rejected(t, "a byte is changed", string(b), want)
		}
	}
}

// spacious copies a node into slices with capacity to spare.
func spacious(n api.Node) api.Node {
	return api.Node{
		Kind:  n.Kind,
		Elems: append(make([]api.Elem, 0, 20), n.Elems...),
		Kids:  append(make([]int, 0, 20), n.Kids...),
		Seps:  append(make([]api.Spot, 0, 20), n.Seps...),
		Tids:  append(make([]int, 0, 20), n.Tids...),
	}
}

// whole is a node with what lies in the spare capacity of its slices.
func whole(n api.Node) api.Node {
	return api.Node{
		Kind:  n.Kind,
		Elems: n.Elems[:cap(n.Elems)],
		Kids:  n.Kids[:cap(n.Kids)],
		Seps:  n.Seps[:cap(n.Seps)],
		Tids:  n.Tids[:cap(n.Tids)],
	}
}

func TestP2WriteModifiesNothing(t *testing.T) {
	for _, n := range append(nodes(), leaf(recs(9)...), inner(9), changed(3, func(x *api.Node) { slices.Reverse(x.Seps) })) {
		got, want := spacious(n), spacious(n)
		page.Write(got)
		if !equal(whole(got), whole(want)) {
			t.Errorf("%v was modified: %v", whole(want), whole(got))
		}
	}
}

// TestP2ResultsOfReadShareNothing overwrites one slice of a result after another, with its spare capacity:
// neither the other slices nor another result change.
func TestP2ResultsOfReadShareNothing(t *testing.T) {
	for _, n := range nodes() {
		s, _ := page.Write(n)
		first, _ := page.Read(s)
		second, _ := page.Read(s)
		fill(first.Kids, -7)
		if !slices.Equal(first.Tids, n.Tids) || slices.Contains(whole(first).Tids, -7) {
			t.Errorf("Kids and Tids of Read(%q) share memory", s)
		}
		fill(first.Tids, -7)
		fill(first.Elems, api.Elem{Made: -7})
		fill(first.Seps, api.Spot{Made: -7})
		x := whole(second)
		if !equal(second, n) || slices.Contains(x.Kids, -7) || slices.Contains(x.Tids, -7) ||
			slices.Contains(x.Elems, api.Elem{Made: -7}) || slices.Contains(x.Seps, api.Spot{Made: -7}) {
			t.Errorf("two results of Read(%q) share memory: %v", s, x)
		}
	}
}

// fill overwrites a slice and its spare capacity.
func fill[T any](l []T, mark T) {
	all := l[:cap(l)]
	for i := range all {
		all[i] = mark
	}
}
