package file_test

import (
	"fmt"
	"math"
	"slices"
	"strings"
	"testing"

	"annalist/api"
	"annalist/file"
	"annalist/key"
)

// The object of most tests.
const (
	pfs = 3
	obj = 7
)

// rec is a record of the object.
func rec(off, made, gone int, val string) api.Elem {
	return api.Elem{Key: api.Key{Pfs: pfs, Obj: obj, Off: off}, Made: made, Gone: gone, Val: val}
}

// other is a record of any object that is not deleted.
func other(pfs, obj, off, made int, val string) api.Elem {
	return api.Elem{Key: api.Key{Pfs: pfs, Obj: obj, Off: off}, Made: made, Val: val}
}

// sorted is a list of records in the order of spots.
func sorted(l ...api.Elem) []api.Elem {
	return slices.SortedFunc(slices.Values(l), func(a, b api.Elem) int {
		return key.CmpSpot(api.Spot{Key: a.Key, Made: a.Made}, api.Spot{Key: b.Key, Made: b.Made})
	})
}

// text is a string of n bytes in which no two blocks are equal.
func text(n int) string {
	var b strings.Builder
	for i := 0; b.Len() < n; i++ {
		fmt.Fprintf(&b, "<%02d\x00\xff>", i)
	}
	return b.String()[:n]
}

// chunks are the blocks of a text.
func chunks(s string) []string {
	var l []string
	for len(s) > 16 {
		l = append(l, s[:16])
		s = s[16:]
	}
	if len(s) > 0 {
		l = append(l, s)
	}
	return l
}

// odd is a run in which the object has blocks of all lengths, with gaps, beside records that are no blocks of it.
func odd() []api.Elem {
	return sorted(
		other(pfs-1, obj, 1, 1, "realm before"),
		other(pfs, obj-1, 1, 1, "object before"),
		other(pfs, obj-1, 20, 2, "end of the object before"),
		rec(0, 1, 0, "offset 0"),
		rec(1, 2, 4, "first"), rec(1, 4, 6, "1st"), rec(1, 8, 0, "again"),
		rec(2, 3, 9, "2"), rec(2, 9, 0, ""),
		rec(5, 2, 5, "gone"),
		rec(6, 3, 0, strings.Repeat("v", 40)),
		rec(19, 4, 0, "0123456789abcdef"),
		rec(20, 1, 7, "last"), rec(20, 7, 9, "LAST"),
		rec(21, 1, 0, "offset 21"),
		rec(1<<30, 1, 0, "last offset"),
		other(pfs, obj+1, 1, 2, "object after"),
		other(pfs+1, obj, 1, 3, "realm after"),
	)
}

// full is a run of n records, none of which belongs to the object. The last time is 5.
func full(n int) []api.Elem {
	var l []api.Elem
	for i := range n {
		l = append(l, other(pfs, obj+1, i, 5, "x"))
	}
	return l
}

// samples are runs of all sorts.
func samples() [][]api.Elem {
	return [][]api.Elem{
		nil,
		odd(),
		{rec(1, 9, 0, "0123456789abcdef"), rec(2, 9, 0, "x")},
		{rec(1, 8, 0, ""), rec(2, 9, 0, "x")},
		{rec(20, 9, 0, "x")},
		{rec(1, 9, 0, text(40)), rec(2, 9, 0, text(40)), rec(3, 2, 9, text(40))},
		full(400),
		full(399),
		full(398),
		full(380),
		full(379),
		sorted(append(full(399), rec(20, 5, 0, "to be removed"))...),
		sorted(append(full(399), rec(1, 5, 0, "to be replaced"))...),
		sorted(append(full(399), rec(1, 4, 0, text(16)))...),
		sorted(append(full(398), rec(1, 5, 0, text(16)), rec(2, 5, 0, "y"))...),
		{other(0, 1, 1, math.MaxInt32, "the last time")},
		{rec(1, 3, math.MaxInt32, "deleted at the last time")},
	}
}

// bad is a list that is no run, with the error of run.Check.
type bad struct {
	l    []api.Elem
	want api.Errno
}

func badRuns() []bad {
	return []bad{
		{make([]api.Elem, 401), api.ErrLarge},
		{[]api.Elem{other(16, 1, 1, 1, "")}, api.ErrArg},
		{[]api.Elem{other(0, 1, -1, 1, "")}, api.ErrArg},
		{[]api.Elem{rec(1, 0, 0, "")}, api.ErrTid},
		{[]api.Elem{rec(1, 3, 3, "")}, api.ErrTid},
		{[]api.Elem{rec(1, 1, 0, strings.Repeat("v", 41))}, api.ErrLarge},
		{[]api.Elem{rec(2, 1, 0, ""), rec(1, 1, 0, "")}, api.ErrForm},
		{[]api.Elem{rec(1, 1, 0, ""), rec(1, 2, 0, "")}, api.ErrForm},
	}
}

// badObjects are realms and objects of which at least one is none.
var badObjects = [][2]int{
	{-1, 0}, {16, 0}, {0, -1}, {0, 1<<20 + 1}, {-1, -1}, {16, 1<<20 + 1}, {256, 7}, {3, 1 << 32},
	{math.MinInt, 7}, {math.MaxInt, 7}, {3, math.MinInt}, {3, math.MaxInt},
}

// times are of all sorts.
var times = []int{math.MinInt, -1, 0, 1, 2, 3, 4, 5, 6, 7, 8, 9, 10, math.MaxInt32 - 1, math.MaxInt32, 1 << 31, 1<<32 + 9, math.MaxInt}

// read is what Get must return: it looks for one block after the other.
func read(l []api.Elem, pfs, obj, t int) string {
	s := ""
	for off := 1; off <= 20; off++ {
		for _, e := range l {
			if e.Key == (api.Key{Pfs: pfs, Obj: obj, Off: off}) && e.Made <= t && (e.Gone == 0 || t < e.Gone) {
				s += e.Val
			}
		}
	}
	return s
}

// last is the greatest time of a run.
func last(l []api.Elem) int {
	n := 0
	for _, e := range l {
		n = max(n, e.Made, e.Gone)
	}
	return n
}

// write is what Set must return for a valid run and object.
func write(l []api.Elem, pfs, obj int, s string, t int) ([]api.Elem, api.Errno) {
	if len(s) > 320 {
		return nil, api.ErrLarge
	}
	if t < 1 || t > math.MaxInt32 || t < last(l) {
		return nil, api.ErrTid
	}
	want := chunks(s)
	done := make([]bool, len(want))
	var m []api.Elem
	added := 0
	for _, e := range l {
		i := e.Key.Off - 1
		switch {
		case e.Key.Pfs != pfs || e.Key.Obj != obj || i < 0 || i >= 20 || e.Gone != 0:
		case i < len(want) && want[i] == e.Val:
			done[i] = true
		case i < len(want) && e.Made == t:
			e.Val = want[i]
			done[i] = true
		case e.Made == t:
			continue
		default:
			e.Gone = t
		}
		m = append(m, e)
	}
	for i, val := range want {
		if !done[i] {
			m = append(m, other(pfs, obj, i+1, t, val))
			added++
		}
	}
	if len(l)+added > 400 {
		return nil, api.ErrFull
	}
	return sorted(m...), api.OK
}

// is fails the test unless a call returned this run, or this error and no run.
func is(t *testing.T, call string, got []api.Elem, err api.Errno, want []api.Elem, wantErr api.Errno) {
	t.Helper()
	if err != wantErr || !slices.Equal(got, want) {
		t.Fatalf("%s: %v, %d, want %v, %d", call, got, err, want, wantErr)
	}
}

func TestP60Get(t *testing.T) {
	l := odd()
	v, d := strings.Repeat("v", 40), "0123456789abcdef"
	for tid, want := range map[int]string{
		math.MinInt: "", -1: "", 0: "", 1: "last", 2: "firstgonelast", 3: "first2gone" + v + "last",
		4: "1st2gone" + v + d + "last", 5: "1st2" + v + d + "last", 6: "2" + v + d + "last", 7: "2" + v + d + "LAST",
		8: "again2" + v + d + "LAST", 9: "again" + v + d, 10: "again" + v + d,
		math.MaxInt32: "again" + v + d, 1 << 31: "again" + v + d, math.MaxInt: "again" + v + d,
	} {
		if got, err := file.Get(l, pfs, obj, tid); got != want || err != api.OK {
			t.Errorf("Get at %d: %q, %d, want %q", tid, got, err, want)
		}
	}
}

// TestP60AllObjects compares Get with a search for the blocks, also of objects at the bounds and of those without any.
func TestP60AllObjects(t *testing.T) {
	for _, l := range append(samples(), bounds()) {
		for _, o := range [][2]int{{pfs, obj}, {pfs, obj - 1}, {pfs, obj + 1}, {pfs - 1, obj}, {pfs + 1, obj}, {0, 0}, {0, 1 << 20}, {15, 0}, {15, 1 << 20}} {
			for _, tid := range times {
				want := read(l, o[0], o[1], tid)
				if got, err := file.Get(l, o[0], o[1], tid); got != want || err != api.OK {
					t.Fatalf("Get(%v, %v, %d): %q, %d, want %q", l, o, tid, got, err, want)
				}
			}
		}
	}
}

// bounds is a run of the objects with the smallest and greatest numbers.
func bounds() []api.Elem {
	var l []api.Elem
	for _, o := range [][2]int{{0, 0}, {0, 1 << 20}, {15, 0}, {15, 1 << 20}} {
		for off := range 22 {
			l = append(l, other(o[0], o[1], off, 1, fmt.Sprint(o, off)))
		}
	}
	return l
}

// TestP60ReturnsTheFirstError: that of the run, then that of the object.
func TestP60ReturnsTheFirstError(t *testing.T) {
	for _, tid := range times {
		for _, x := range badRuns() {
			for _, o := range append(badObjects, [2]int{pfs, obj}) {
				if got, err := file.Get(x.l, o[0], o[1], tid); got != "" || err != x.want {
					t.Errorf("Get(%v, %v): %q, %d, want %d", x.l, o, got, err, x.want)
				}
			}
		}
		for _, l := range samples() {
			for _, o := range badObjects {
				if got, err := file.Get(l, o[0], o[1], tid); got != "" || err != api.ErrArg {
					t.Errorf("Get(%v, %v): %q, %d, want ErrArg", l, o, got, err)
				}
			}
		}
	}
}

// TestP61Blocks sets contents of all lengths, which differ in their last block.
func TestP61Blocks(t *testing.T) {
	for n := range 321 {
		var want []api.Elem
		for i, val := range chunks(text(n)) {
			want = append(want, rec(i+1, 4, 0, val))
		}
		l, err := file.Set(nil, pfs, obj, text(n), 4)
		is(t, fmt.Sprint("Set of length ", n), l, err, want, api.OK)
		if len(l) != (n+15)/16 {
			t.Fatalf("%d bytes are in %d blocks", n, len(l))
		}
		if got, err := file.Get(l, pfs, obj, 4); got != text(n) || err != api.OK {
			t.Fatalf("%q, %d is read, want %q", got, err, text(n))
		}
	}
}

// TestP61TheExample: of two blocks, one whose value does not change remains the same record, in both places.
func TestP61TheExample(t *testing.T) {
	l, err := file.Set(nil, pfs, obj, "0123456789abcdefrest", 1)
	is(t, "Set of two blocks", l, err, []api.Elem{rec(1, 1, 0, "0123456789abcdef"), rec(2, 1, 0, "rest")}, api.OK)
	m, err := file.Set(l, pfs, obj, "0123456789abcdefREST", 3)
	is(t, "Set of the second", m, err, []api.Elem{rec(1, 1, 0, "0123456789abcdef"), rec(2, 1, 3, "rest"), rec(2, 3, 0, "REST")}, api.OK)
	m, err = file.Set(l, pfs, obj, "0123456789ABCDEFrest", 3)
	is(t, "Set of the first", m, err, []api.Elem{rec(1, 1, 3, "0123456789abcdef"), rec(1, 3, 0, "0123456789ABCDEF"), rec(2, 1, 0, "rest")}, api.OK)
	m, err = file.Set(l, pfs, obj, "0123456789abcdef", 3)
	is(t, "Set of the first alone", m, err, []api.Elem{rec(1, 1, 0, "0123456789abcdef"), rec(2, 1, 3, "rest")}, api.OK)
	m, err = file.Set(l, pfs, obj, "", 3)
	is(t, "Set of nothing", m, err, []api.Elem{rec(1, 1, 3, "0123456789abcdef"), rec(2, 1, 3, "rest")}, api.OK)
	m, err = file.Set(l, pfs, obj, "0123456789abcdefrest", 3)
	is(t, "Set of the same", m, err, l, api.OK)
}

// TestP61SameTime: a record that was created at the time is replaced or removed.
func TestP61SameTime(t *testing.T) {
	l := []api.Elem{rec(1, 5, 0, "0123456789abcdef"), rec(2, 2, 5, "old"), rec(2, 5, 0, "new")}
	m, err := file.Set(l, pfs, obj, "0123456789ABCDEF", 5)
	is(t, "Set", m, err, []api.Elem{rec(1, 5, 0, "0123456789ABCDEF"), rec(2, 2, 5, "old")}, api.OK)
	m, err = file.Set(m, pfs, obj, "0123456789abcdefnew", 5)
	is(t, "Set of both blocks", m, err, l, api.OK)
	m, err = file.Set(m, pfs, obj, "", 5)
	is(t, "Set of nothing", m, err, []api.Elem{rec(2, 2, 5, "old")}, api.OK)
}

// TestP61EmptyBlocks: a block without bytes is one all the same, and must not exist behind the contents.
func TestP61EmptyBlocks(t *testing.T) {
	l := []api.Elem{rec(1, 1, 0, ""), rec(4, 1, 0, ""), rec(5, 5, 0, "")}
	m, err := file.Set(l, pfs, obj, "", 5)
	is(t, "Set of nothing", m, err, []api.Elem{rec(1, 1, 5, ""), rec(4, 1, 5, "")}, api.OK)
	m, err = file.Set(l, pfs, obj, "x", 6)
	is(t, "Set", m, err, []api.Elem{rec(1, 1, 6, ""), rec(1, 6, 0, "x"), rec(4, 1, 6, ""), rec(5, 5, 6, "")}, api.OK)
}

// contents are texts with equal and with different blocks.
func contents() []string {
	l := []string{"", "x", "\x00", "2", "to be replaced", "again", text(40), "0123456789abcdef", "0123456789abcdefx", "0123456789abcdefX", "0123456789abcdefxx"}
	for _, n := range []int{1, 15, 16, 17, 31, 32, 33, 160, 303, 304, 305, 319, 320, 321, 336, 400} {
		l = append(l, text(n), strings.Repeat("0123456789abcdef", 25)[:n])
	}
	return l
}

// TestP61Set compares Set with a reference on runs of all sorts, from full ones to such with odd blocks.
func TestP61Set(t *testing.T) {
	seen := map[api.Errno]bool{}
	for i, l := range samples() {
		for _, s := range contents() {
			for _, tid := range times {
				want, wantErr := write(l, pfs, obj, s, tid)
				got, err := file.Set(l, pfs, obj, s, tid)
				is(t, fmt.Sprintf("Set %q at %d in sample %d", s, tid, i), got, err, want, wantErr)
				seen[err] = true
				if err != api.OK {
					continue
				}
				if now := read(got, pfs, obj, tid); now != s {
					t.Fatalf("%q is read after Set %q at %d in sample %d", now, s, tid, i)
				}
				for _, before := range times {
					if before < tid && read(got, pfs, obj, before) != read(l, pfs, obj, before) {
						t.Fatalf("Set %q at %d in sample %d changed what is read at %d", s, tid, i, before)
					}
				}
			}
		}
	}
	for _, err := range []api.Errno{api.OK, api.ErrLarge, api.ErrTid, api.ErrFull} {
		if !seen[err] {
			t.Errorf("there was no result %d", err)
		}
	}
}

// TestP61Bounds sets the contents of objects with the smallest and greatest numbers.
func TestP61Bounds(t *testing.T) {
	for _, o := range [][2]int{{0, 0}, {0, 1 << 20}, {15, 0}, {15, 1 << 20}} {
		for _, s := range []string{"", text(33), text(320)} {
			want, _ := write(bounds(), o[0], o[1], s, 2)
			got, err := file.Set(bounds(), o[0], o[1], s, 2)
			is(t, fmt.Sprintf("Set(%v, %q)", o, s), got, err, want, api.OK)
		}
	}
}

// TestP61ReturnsTheFirstError: run, object, length, time, capacity.
func TestP61ReturnsTheFirstError(t *testing.T) {
	for _, tid := range times {
		for _, s := range []string{"", "x", text(320), text(321), strings.Repeat("x", 5000)} {
			for _, x := range badRuns() {
				for _, o := range append(badObjects, [2]int{pfs, obj}) {
					got, err := file.Set(x.l, o[0], o[1], s, tid)
					is(t, "Set in no run", got, err, nil, x.want)
				}
			}
			for _, l := range samples() {
				for _, o := range badObjects {
					got, err := file.Set(l, o[0], o[1], s, tid)
					is(t, "Set of no object", got, err, nil, api.ErrArg)
				}
			}
		}
		got, err := file.Set(full(400), pfs, obj, text(321), tid)
		is(t, "Set of 321 bytes", got, err, nil, api.ErrLarge)
	}
	for _, tid := range []int{math.MinInt, -1, 0, 1, 4, 1 << 31, 1<<32 + 9, math.MaxInt} {
		for _, s := range []string{"", "x", text(320)} {
			got, err := file.Set(full(400), pfs, obj, s, tid)
			is(t, "Set at a wrong time", got, err, nil, api.ErrTid)
		}
	}
	got, err := file.Set(full(400), pfs, obj, "x", 5)
	is(t, "Set in a full run", got, err, nil, api.ErrFull)
}

// TestP61WrongTimesWithoutChanges: they are errors also if no block would be written.
func TestP61WrongTimesWithoutChanges(t *testing.T) {
	l := []api.Elem{other(0, 1, 1, 9, "elsewhere"), rec(1, 1, 0, "same")}
	for _, tid := range times {
		got, err := file.Set(l, pfs, obj, "same", tid)
		if tid < 9 || tid > math.MaxInt32 {
			is(t, fmt.Sprint("Set at ", tid), got, err, nil, api.ErrTid)
		} else {
			is(t, fmt.Sprint("Set at ", tid), got, err, l, api.OK)
		}
		got, err = file.Set(nil, pfs, obj, "", tid)
		if tid < 1 || tid > math.MaxInt32 {
			is(t, fmt.Sprint("Set of nothing at ", tid), got, err, nil, api.ErrTid)
		} else {
			is(t, fmt.Sprint("Set of nothing at ", tid), got, err, nil, api.OK)
		}
	}
}

// TestP61FullRuns: what needs no new record is written into a full run, and blocks are handled from the first one on.
func TestP61FullRuns(t *testing.T) {
	l := sorted(append(full(398), rec(1, 5, 0, "one"), rec(20, 5, 0, "twenty"))...)
	got, err := file.Set(l, pfs, obj, "ONE", 5)
	is(t, "Set of one block at the same time", got, err, sorted(append(full(398), rec(1, 5, 0, "ONE"))...), api.OK)
	got, err = file.Set(l, pfs, obj, "one", 6)
	is(t, "Set without the last block", got, err, sorted(append(full(398), rec(1, 5, 0, "one"), rec(20, 5, 6, "twenty"))...), api.OK)
	got, err = file.Set(l, pfs, obj, "", 5)
	is(t, "Set of nothing at the same time", got, err, full(398), api.OK)
	got, err = file.Set(l, pfs, obj, text(17), 5)
	is(t, "Set of a second block before the last one is removed", got, err, nil, api.ErrFull)
	got, err = file.Set(l, pfs, obj, "ONE", 6)
	is(t, "Set of a new version", got, err, nil, api.ErrFull)
	got, err = file.Set(full(381), pfs, obj, text(320), 5)
	is(t, "Set of twenty blocks", got, err, nil, api.ErrFull)
	got, err = file.Set(full(381), pfs, obj, text(304), 5)
	if err != api.OK || len(got) != 400 {
		t.Errorf("Set of nineteen blocks: %d records, %d", len(got), err)
	}
}

// TestP62Patch compares Patch with Set of contents that are put together byte by byte.
func TestP62Patch(t *testing.T) {
	for i, l := range samples() {
		old := read(l, pfs, obj, math.MaxInt32)
		for _, s := range []string{"", "!", "!!", text(16), text(17), text(100), text(320), text(321)} {
			for at := 0; at <= len(old); at++ {
				now := []byte(old)
				for j := range len(s) {
					if at+j == len(now) {
						now = append(now, 0)
					}
					now[at+j] = s[j]
				}
				for _, tid := range []int{last(l), 10, math.MaxInt32} {
					want, wantErr := write(l, pfs, obj, string(now), tid)
					got, err := file.Patch(l, pfs, obj, at, s, tid)
					is(t, fmt.Sprintf("Patch at index %d with %q at %d in sample %d", at, s, tid, i), got, err, want, wantErr)
				}
			}
		}
	}
}

// TestP62Contents: bytes before and after those that are replaced stay, and only the blocks with the others change.
func TestP62Contents(t *testing.T) {
	l, _ := file.Set(nil, pfs, obj, "0123456789abcdef0123456789ABCDEFrest", 1)
	for _, x := range []struct {
		at      int
		s, want string
		changed []int
	}{
		{0, "", "0123456789abcdef0123456789ABCDEFrest", nil},
		{36, "", "0123456789abcdef0123456789ABCDEFrest", nil},
		{0, "x", "x123456789abcdef0123456789ABCDEFrest", []int{1}},
		{15, "x", "0123456789abcdex0123456789ABCDEFrest", []int{1}},
		{15, "xy", "0123456789abcdexy123456789ABCDEFrest", []int{1, 2}},
		{16, "xy", "0123456789abcdefxy23456789ABCDEFrest", []int{2}},
		{16, "01", "0123456789abcdef0123456789ABCDEFrest", nil},
		{35, "x", "0123456789abcdef0123456789ABCDEFresx", []int{3}},
		{35, "xy", "0123456789abcdef0123456789ABCDEFresxy", []int{3}},
		{36, "xy", "0123456789abcdef0123456789ABCDEFrestxy", []int{3}},
		{36, "0123456789abc", "0123456789abcdef0123456789ABCDEFrest0123456789abc", []int{3, 4}},
	} {
		m, err := file.Patch(l, pfs, obj, x.at, x.s, 5)
		got, getErr := file.Get(m, pfs, obj, 5)
		if got != x.want || err != api.OK || getErr != api.OK {
			t.Errorf("Patch at %d with %q: %q, %d, %d, want %q", x.at, x.s, got, err, getErr, x.want)
		}
		var changed []int
		for _, e := range m {
			if e.Made == 5 {
				changed = append(changed, e.Key.Off)
			}
		}
		if !slices.Equal(changed, x.changed) {
			t.Errorf("Patch at %d with %q changed the blocks %v, want %v", x.at, x.s, changed, x.changed)
		}
		if before, _ := file.Get(m, pfs, obj, 4); before != "0123456789abcdef0123456789ABCDEFrest" {
			t.Errorf("Patch at %d with %q made the contents at 4 %q", x.at, x.s, before)
		}
	}
}

// TestP62CurrentContents: they are those that are not deleted, also if the time is an earlier one or none.
func TestP62CurrentContents(t *testing.T) {
	l := []api.Elem{rec(1, 2, 6, "seven b"), rec(1, 6, 0, "six by"), rec(2, 2, math.MaxInt32-1, "deleted")}
	for _, tid := range times {
		got, err := file.Patch(l, pfs, obj, 7, "", tid)
		is(t, fmt.Sprint("Patch after the end at ", tid), got, err, nil, api.ErrArg)
		got, err = file.Patch(l, pfs, obj, 6, text(315), tid)
		is(t, fmt.Sprint("Patch of 321 bytes at ", tid), got, err, nil, api.ErrLarge)
		got, err = file.Patch(l, pfs, obj, 6, "!", tid)
		if tid < math.MaxInt32-1 || tid > math.MaxInt32 {
			is(t, fmt.Sprint("Patch at ", tid), got, err, nil, api.ErrTid)
		} else {
			is(t, fmt.Sprint("Patch at ", tid), got, err, []api.Elem{l[0], rec(1, 6, tid, "six by"), rec(1, tid, 0, "six by!"), l[2]}, api.OK)
		}
	}
}

// TestP62ReturnsTheFirstError: run, object, index, length, time, capacity.
func TestP62ReturnsTheFirstError(t *testing.T) {
	indexes := []int{math.MinInt, -1, 0, 1, 7, math.MaxInt}
	for _, s := range []string{"", "x", text(321)} {
		for _, tid := range times {
			for _, at := range indexes {
				for _, x := range badRuns() {
					for _, o := range append(badObjects, [2]int{pfs, obj}) {
						got, err := file.Patch(x.l, o[0], o[1], at, s, tid)
						is(t, "Patch in no run", got, err, nil, x.want)
					}
				}
				for _, o := range badObjects {
					got, err := file.Patch(odd(), o[0], o[1], at, s, tid)
					is(t, "Patch of no object", got, err, nil, api.ErrArg)
				}
			}
			for i, l := range samples() {
				n := len(read(l, pfs, obj, math.MaxInt32))
				for _, at := range []int{math.MinInt, -1, n + 1, n + 2, n + 1000, 1 << 32, math.MaxInt} {
					got, err := file.Patch(l, pfs, obj, at, s, tid)
					is(t, fmt.Sprintf("Patch at index %d in sample %d", at, i), got, err, nil, api.ErrArg)
				}
			}
		}
	}
	got, err := file.Patch(full(400), pfs, obj, 0, text(321), 0)
	is(t, "Patch of 321 bytes at no time", got, err, nil, api.ErrLarge)
	got, err = file.Patch(full(400), pfs, obj, 0, "x", 4)
	is(t, "Patch too early", got, err, nil, api.ErrTid)
	got, err = file.Patch(full(400), pfs, obj, 0, "x", 5)
	is(t, "Patch in a full run", got, err, nil, api.ErrFull)
	got, err = file.Patch(full(400), pfs, obj, 0, "", 5)
	is(t, "Patch with nothing in a full run", got, err, full(400), api.OK)
}

// TestP2RunsAreNotModifiedNorShared calls each function twice and overwrites what it returns, with the spare capacity.
func TestP2RunsAreNotModifiedNorShared(t *testing.T) {
	mark := rec(9, 9, 9, "overwritten")
	for _, l := range samples() {
		for _, s := range contents() {
			for name, call := range map[string]func(l []api.Elem) ([]api.Elem, api.Errno){
				"Get":   func(l []api.Elem) ([]api.Elem, api.Errno) { _, err := file.Get(l, pfs, obj, 9); return nil, err },
				"Set":   func(l []api.Elem) ([]api.Elem, api.Errno) { return file.Set(l, pfs, obj, s, max(9, last(l))) },
				"Patch": func(l []api.Elem) ([]api.Elem, api.Errno) { return file.Patch(l, pfs, obj, 0, s, max(9, last(l))) },
				"Set of what is there": func(l []api.Elem) ([]api.Elem, api.Errno) {
					return file.Set(l, pfs, obj, read(l, pfs, obj, last(l)), last(l))
				},
			} {
				arg := append(slices.Clone(l), rec(8, 8, 8, "spare"), rec(8, 8, 8, "spare"))
				before := slices.Clone(arg)
				got, _ := call(arg[:len(l)])
				want := slices.Clone(got)
				overwrite(got, mark)
				again, _ := call(arg[:len(l)])
				if !slices.Equal(again, want) || !slices.Equal(got, overwritten(len(got), mark)) {
					t.Fatalf("two results of %s share memory", name)
				}
				overwrite(again, mark)
				if !slices.Equal(arg, before) {
					t.Fatalf("%s of %v, %q modified its argument, or shares memory with it", name, l, s)
				}
			}
		}
	}
}

// overwrite fills a slice and its spare capacity.
func overwrite(l []api.Elem, mark api.Elem) {
	l = l[:cap(l)]
	for i := range l {
		l[i] = mark
	}
}

// overwritten is a slice of n marks.
func overwritten(n int, mark api.Elem) []api.Elem {
	return slices.Repeat([]api.Elem{mark}, n)
}
