package dir_test

import (
	"fmt"
	"math"
	"slices"
	"strings"
	"testing"

	"annalist/api"
	"annalist/dir"
	"annalist/key"
	"annalist/run"
	"annalist/sum"
)

// The object of most tests.
const (
	pfs = 3
	obj = 7
)

// slot is a slot of a name, where 0 is the first one.
func slot(name string, i int) int {
	return 1000000 + 8*(sum.Of(name)%1000) + i
}

// rec is a record of the object.
func rec(off, made, gone int, val string) api.Elem {
	return api.Elem{Key: api.Key{Pfs: pfs, Obj: obj, Off: off}, Made: made, Gone: gone, Val: val}
}

// in is a record of another object.
func in(pfs, obj int, e api.Elem) api.Elem {
	e.Key.Pfs, e.Key.Obj = pfs, obj
	return e
}

// sorted is a list of records in the order of spots.
func sorted(l ...api.Elem) []api.Elem {
	return slices.SortedFunc(slices.Values(l), func(a, b api.Elem) int {
		return key.CmpSpot(api.Spot{Key: a.Key, Made: a.Made}, api.Spot{Key: b.Key, Made: b.Made})
	})
}

// alike are n names that have the same slots as a, which is the first of them.
func alike(n int) []string {
	names := []string{"a"}
	for i := 0; len(names) < n; i++ {
		if name := fmt.Sprint("n", i); slot(name, 0) == slot("a", 0) {
			names = append(names, name)
		}
	}
	return names
}

// hashed is a name whose first slot is this one.
func hashed(first int) string {
	i := 0
	for slot(fmt.Sprint(i), 0) != first {
		i++
	}
	return fmt.Sprint(i)
}

// bad is a list that is no run, with the error of run.Check.
type bad struct {
	l    []api.Elem
	want api.Errno
}

func badRuns() []bad {
	return []bad{
		{make([]api.Elem, 401), api.ErrLarge},
		{[]api.Elem{in(16, 1, rec(1, 1, 0, ""))}, api.ErrArg},
		{[]api.Elem{in(0, -1, rec(1, 1, 0, ""))}, api.ErrArg},
		{[]api.Elem{rec(1, 0, 0, "")}, api.ErrTid},
		{[]api.Elem{rec(1, 3, 3, "")}, api.ErrTid},
		{[]api.Elem{rec(1, 1, 0, strings.Repeat("v", 41))}, api.ErrLarge},
		{[]api.Elem{rec(2, 1, 0, ""), rec(1, 1, 0, "")}, api.ErrForm},
		{[]api.Elem{rec(1, 1, 0, ""), rec(1, 2, 0, "")}, api.ErrForm},
	}
}

// badObjects are realms and objects of which at least one is none.
var badObjects = [][2]int{
	{-1, 0}, {16, 0}, {0, -1}, {0, 1<<20 + 1}, {-1, -1}, {16, 1<<20 + 1}, {256, 7}, {3, 1 << 32},
	{math.MinInt, 7}, {math.MaxInt, 7}, {3, math.MinInt}, {3, math.MaxInt},
}

// badNames are no names.
var badNames = []string{"", ".", "..", "a/b", "a@b", "a b", "\x00", "a\n", "\x7f", "\x80", "\u00e9", "thirteen-byte", strings.Repeat("x", 500)}

// badNumbers are no numbers of objects.
var badNumbers = []int{-1, 1<<20 + 1, 1 << 32, math.MinInt, math.MaxInt}

// times are of all sorts.
var times = []int{math.MinInt, -1, 0, 1, 2, 3, 4, 5, 6, 7, 8, 9, 10, math.MaxInt32 - 1, math.MaxInt32, 1 << 31, 1<<32 + 9, math.MaxInt}

// is fails the test unless a call returned this run, or this error and no run.
func is(t *testing.T, call string, got []api.Elem, err api.Errno, want []api.Elem, wantErr api.Errno) {
	t.Helper()
	if err != wantErr || !slices.Equal(got, want) {
		t.Fatalf("%s: %v, %d, want %v, %d", call, got, err, want, wantErr)
	}
}

// finds fails the test unless name refers to of at a time, or cannot be found.
func finds(t *testing.T, l []api.Elem, name string, tid, of int, want api.Errno) {
	t.Helper()
	if got, err := dir.Find(l, pfs, obj, name, tid); got != of || err != want {
		t.Fatalf("Find(%v, %q, %d): %d, %d, want %d, %d", l, name, tid, got, err, of, want)
	}
}

// lists fails the test unless these are the names at a time.
func lists(t *testing.T, l []api.Elem, tid int, want ...string) {
	t.Helper()
	if got, err := dir.List(l, pfs, obj, tid); !slices.Equal(got, want) || err != api.OK {
		t.Fatalf("List(%v, %d): %q, %d, want %q", l, tid, got, err, want)
	}
}

func TestP63Name(t *testing.T) {
	for _, s := range badNames {
		if dir.Name(s) {
			t.Errorf("%q is a name", s)
		}
	}
	for _, s := range []string{"...", ".a", "a.", "..a", "a..", ".-", ":", "::", "1:a", "-", "+", "~", "!", "%20", "_", "\\", "#", "twelve-bytes", strings.Repeat(".", 12)} {
		if !dir.Name(s) {
			t.Errorf("%q is no name", s)
		}
	}
	for n := range 30 {
		if dir.Name(strings.Repeat("x", n)) != (n >= 1 && n <= 12) {
			t.Errorf("%d bytes: %v", n, !(n >= 1 && n <= 12))
		}
	}
}

// TestP63NameBytes tries every byte at every place of names of all lengths.
func TestP63NameBytes(t *testing.T) {
	for n := 1; n <= 12; n++ {
		for i := range n {
			for c := range 256 {
				s := []byte(strings.Repeat("x", n))
				s[i] = byte(c)
				want := c >= 33 && c <= 126 && c != '/' && c != '@' && string(s) != "."
				if dir.Name(string(s)) != want {
					t.Errorf("Name(%q) = %v", s, !want)
				}
			}
		}
	}
}

// TestP63EntryOffsets: an entry is at one of the eight slots of its name, and nowhere else.
func TestP63EntryOffsets(t *testing.T) {
	if slot("123456789", 0) != 1000000+8*(0x31c3%1000) {
		t.Fatalf("the first slot is %d", slot("123456789", 0))
	}
	for _, name := range append(alike(3), "b", ":", "twelve-bytes", "123456789", hashed(1000000), hashed(1007992)) {
		val := "5:" + name
		for i := -20; i < 30; i++ {
			l := []api.Elem{rec(slot(name, i), 1, 0, val)}
			if i >= 0 && i < 8 {
				finds(t, l, name, 1, 5, api.OK)
				lists(t, l, 1, name)
			} else {
				finds(t, l, name, 1, 0, api.ErrNone)
				lists(t, l, 1)
			}
		}
		for _, off := range []int{0, 1, slot(name, 0) - 1000000, 1000000, 1007999, 1008000, slot(name, 0) + 8000, 1 << 30} {
			if off < slot(name, 0) || off >= slot(name, 8) {
				lists(t, []api.Elem{rec(off, 1, 0, val)}, 1)
			}
		}
	}
}

// TestP63EntryValues: a number without leading zeros, a colon, a name.
func TestP63EntryValues(t *testing.T) {
	for text, of := range map[string]int{"0": 0, "1": 1, "9": 9, "10": 10, "100": 100, "1048575": 1048575, "1048576": 1048576} {
		for _, name := range []string{"a", ":", "::", "1:a", ":1", "twelve-bytes", "...", "0"} {
			l := []api.Elem{rec(slot(name, 2), 1, 0, text+":"+name)}
			finds(t, l, name, 1, of, api.OK)
			lists(t, l, 1, name)
		}
	}
	for _, text := range []string{
		"", "00", "01", "000", "0100", "-1", "-0", "+1", "+0", " 1", "1 ", "1_0", "0x1", "1e3", "1.0", "1.", ".", "a", "\x001", "1\x00", "\u0661",
		"1048577", "2000000", "4294967296", "9223372036854775807", "9223372036854775808", "18446744073709551617", "99999999999999999999999999", "01048576",
	} {
		l := []api.Elem{rec(slot("a", 0), 1, 0, text+":a")}
		finds(t, l, "a", 1, 0, api.ErrNone)
		lists(t, l, 1)
	}
	for _, val := range []string{"", "a", "1", "1a", "1:", "1", ":", "1;a", "1 a", "1/a", "1: a", " 1:a", "1:a ", "1:a\x00", "1::", ":a", ":1:a", "a:1", "1:a:1"} {
		l := []api.Elem{rec(slot("a", 0), 1, 0, val)}
		finds(t, l, "a", 1, 0, api.ErrNone)
		lists(t, l, 1)
	}
	for _, name := range badNames {
		if len(name) < 30 {
			lists(t, []api.Elem{rec(slot(name, 0), 1, 0, "1:"+name)}, 1)
		}
	}
}

// history is a run with entries of two names with the same slots, and of others, beside records that are none.
// a refers to 1 from 2 on, to 2 from 4 on, to none at 6, and to 3 from 8 on. There are two entries of b from 5 on, and one again from 7 on.
func history() []api.Elem {
	x := alike(2)[1]
	return sorted(
		rec(0, 1, 0, "d"),
		rec(slot("a", 0), 1, 3, "no entry"),
		rec(slot("a", 0), 4, 6, "2:a"),
		rec(slot("a", 1), 2, 4, "1:a"),
		rec(slot("a", 1), 5, 0, "9:"+x),
		rec(slot("a", 7), 8, 0, "3:a"),
		rec(slot("b", 2), 5, 7, "40:b"),
		rec(slot("b", 5), 3, 0, "50:b"),
		rec(slot("B", 3), 3, math.MaxInt32, "1048576:B"),
		rec(slot("ab", 3), 7, 0, "0:ab"),
		in(pfs, obj+1, rec(slot("c", 0), 1, 0, "1:c")),
		in(pfs, obj-1, rec(slot("c", 0), 1, 0, "2:c")),
		in(pfs-1, obj, rec(slot("c", 0), 1, 0, "3:c")),
		in(pfs+1, obj, rec(slot("c", 0), 1, 0, "4:c")),
	)
}

func TestP64Find(t *testing.T) {
	l := history()
	x := alike(2)[1]
	for _, y := range []struct {
		name     string
		from, to int
		of       int
	}{
		{"a", 2, 4, 1}, {"a", 4, 6, 2}, {"a", 8, math.MaxInt, 3},
		{x, 5, math.MaxInt, 9},
		{"b", 3, 5, 50}, {"b", 5, 7, 40}, {"b", 7, math.MaxInt, 50},
		{"B", 3, math.MaxInt32, 1048576},
		{"ab", 7, math.MaxInt, 0},
	} {
		for _, tid := range times {
			inside := tid >= y.from && (tid < y.to || y.to == math.MaxInt)
			if got, err := dir.Find(l, pfs, obj, y.name, tid); inside && (got != y.of || err != api.OK) {
				t.Errorf("Find %q at %d: %d, %d, want %d", y.name, tid, got, err, y.of)
			}
		}
	}
	for name, missing := range map[string][]int{
		"a": {math.MinInt, -1, 0, 1, 6, 7}, x: {0, 1, 4}, "b": {1, 2}, "B": {2, math.MaxInt32, 1 << 31}, "ab": {6, 0},
		"c": times, "d": times, "aa": times, "A": times, "twelve-bytes": times,
	} {
		for _, tid := range missing {
			finds(t, l, name, tid, 0, api.ErrNone)
		}
	}
}

// TestP64Objects finds the entries of each object alone, also at the bounds.
func TestP64Objects(t *testing.T) {
	var l []api.Elem
	objects := [][2]int{{0, 0}, {0, 1 << 20}, {15, 0}, {15, 1 << 20}}
	for i, o := range objects {
		l = append(l, in(o[0], o[1], rec(slot("a", i), 1, 0, fmt.Sprint(i, ":a"))), in(o[0], o[1], rec(slot("a", 6), 1, 0, "99:a")))
	}
	for i, o := range objects {
		if of, err := dir.Find(l, o[0], o[1], "a", 1); of != i || err != api.OK {
			t.Errorf("Find in %v: %d, %d, want %d", o, of, err, i)
		}
	}
	if of, err := dir.Find(l, 0, 1, "a", 1); of != 0 || err != api.ErrNone {
		t.Errorf("Find in an object without records: %d, %d", of, err)
	}
}

// TestP64ReturnsTheFirstError: run, object, name, entry.
func TestP64ReturnsTheFirstError(t *testing.T) {
	for _, tid := range times {
		for _, name := range append(badNames, "a", "missing") {
			for _, x := range badRuns() {
				for _, o := range append(badObjects, [2]int{pfs, obj}) {
					if of, err := dir.Find(x.l, o[0], o[1], name, tid); of != 0 || err != x.want {
						t.Fatalf("Find(%v, %v, %q): %d, %d, want %d", x.l, o, name, of, err, x.want)
					}
				}
			}
			for _, o := range badObjects {
				if of, err := dir.Find(history(), o[0], o[1], name, tid); of != 0 || err != api.ErrArg {
					t.Fatalf("Find(%v, %q): %d, %d, want ErrArg", o, name, of, err)
				}
			}
		}
		for _, name := range badNames {
			finds(t, history(), name, tid, 0, api.ErrForm)
			finds(t, nil, name, tid, 0, api.ErrForm)
		}
		finds(t, nil, "a", tid, 0, api.ErrNone)
	}
}

func TestP65List(t *testing.T) {
	l := history()
	x := alike(2)[1]
	for _, tid := range []int{math.MinInt, -1, 0, 1} {
		lists(t, l, tid)
	}
	lists(t, l, 2, "a")
	lists(t, l, 3, "B", "a", "b")
	lists(t, l, 4, "B", "a", "b")
	lists(t, l, 5, "B", "a", "b", x)
	lists(t, l, 6, "B", "b", x)
	lists(t, l, 7, "B", "ab", "b", x)
	lists(t, l, 8, "B", "a", "ab", "b", x)
	lists(t, l, math.MaxInt32-1, "B", "a", "ab", "b", x)
	for _, tid := range []int{math.MaxInt32, 1 << 31, math.MaxInt} {
		lists(t, l, tid, "a", "ab", "b", x)
	}
	lists(t, nil, 1)
}

// TestP65ByteOrder: the names are in byte order, not in that of their slots, and none is there twice.
func TestP65ByteOrder(t *testing.T) {
	names := []string{"!", "-", "0", "1", "10", "2", ":", "A", "Z", "_", "a", "a!", "a.", "a0", "aA", "aa", "ab", "b", "z", "~", "~~"}
	var l []api.Elem
	taken := map[int]bool{}
	for _, name := range names {
		entries := 0
		for i := range 8 {
			// Some names have the same slots.
			if !taken[slot(name, i)] && entries < 3 {
				taken[slot(name, i)] = true
				entries++
				l = append(l, rec(slot(name, i), 1, 0, fmt.Sprint(i, ":", name)))
			}
		}
	}
	lists(t, sorted(l...), 1, names...)
}

// TestP65ReturnsTheFirstError: run, object.
func TestP65ReturnsTheFirstError(t *testing.T) {
	for _, tid := range times {
		for _, x := range badRuns() {
			for _, o := range append(badObjects, [2]int{pfs, obj}) {
				if names, err := dir.List(x.l, o[0], o[1], tid); len(names) != 0 || err != x.want {
					t.Fatalf("List(%v, %v): %q, %d, want %d", x.l, o, names, err, x.want)
				}
			}
		}
		for _, o := range badObjects {
			if names, err := dir.List(history(), o[0], o[1], tid); len(names) != 0 || err != api.ErrArg {
				t.Fatalf("List(%v): %q, %d, want ErrArg", o, names, err)
			}
		}
	}
}

// puts is a run after one more run.Put.
func puts(t *testing.T, l []api.Elem, off int, val string, tid int) []api.Elem {
	t.Helper()
	m, err := run.Put(l, api.Key{Pfs: pfs, Obj: obj, Off: off}, val, tid)
	if err != api.OK {
		t.Fatalf("run.Put returned %d", err)
	}
	return m
}

func TestP66Add(t *testing.T) {
	var l []api.Elem
	for i, name := range []string{"a", "twelve-bytes", ":", "1:b", "...", "b"} {
		for _, of := range []int{0, 1, 10, 1 << 20} {
			m, err := dir.Add(l, pfs, obj, name, of, 3+i)
			want := puts(t, l, slot(name, 0), fmt.Sprint(of, ":", name), 3+i)
			is(t, fmt.Sprintf("Add %q", name), m, err, want, api.OK)
			finds(t, m, name, 3+i, of, api.OK)
			finds(t, m, name, 2+i, 0, api.ErrNone)
		}
		l, _ = dir.Add(l, pfs, obj, name, i, 3+i)
	}
}

// TestP66FirstFreeSlot: names with the same slots take one after the other, up to the eighth. What was dropped leaves its slot.
func TestP66FirstFreeSlot(t *testing.T) {
	var l []api.Elem
	names := alike(9)
	for i, name := range names[:8] {
		m, err := dir.Add(l, pfs, obj, name, i, 1)
		is(t, "Add", m, err, puts(t, l, slot("a", i), fmt.Sprint(i, ":", name), 1), api.OK)
		l = m
	}
	for _, tid := range times {
		m, err := dir.Add(l, pfs, obj, names[8], 8, tid)
		is(t, "Add of a ninth name", m, err, nil, api.ErrFull)
	}
	lists(t, l, 1, slices.Sorted(slices.Values(names[:8]))...)
	for i, name := range names[:8] {
		for tid := 1; tid < 4; tid++ {
			m, err := dir.Drop(l, pfs, obj, name, tid)
			if err != api.OK {
				t.Fatalf("Drop returned %d", err)
			}
			for later := tid; later < 5; later++ {
				got, err := dir.Add(m, pfs, obj, names[8], 8, later)
				is(t, "Add in place of another", got, err, puts(t, m, slot("a", i), "8:"+names[8], later), api.OK)
			}
		}
	}
	for i := range 7 {
		m, _ := dir.Drop(l, pfs, obj, names[i+1], 2)
		m, _ = dir.Drop(m, pfs, obj, names[i], 2)
		got, err := dir.Add(m, pfs, obj, names[8], 8, 2)
		is(t, "Add in the first of two free slots", got, err, puts(t, m, slot("a", i), "8:"+names[8], 2), api.OK)
	}
}

// TestP66OtherRecords: any record at a slot takes it, also if it is no entry, or an entry in another object's eyes; those of other objects do not.
func TestP66OtherRecords(t *testing.T) {
	for _, val := range []string{"", "no entry", "01:a", "5:b", "5:missing"} {
		l := []api.Elem{rec(slot("a", 0), 1, 0, val), rec(slot("a", 1), 1, 2, val), rec(slot("a", 2), 1, 0, val)}
		got, err := dir.Add(l, pfs, obj, "a", 5, 2)
		is(t, "Add beside "+val, got, err, sorted(append(l, rec(slot("a", 1), 2, 0, "5:a"))...), api.OK)
		var all []api.Elem
		for i := range 8 {
			all = append(all, rec(slot("a", i), 1, 0, val))
		}
		for _, tid := range times {
			got, err = dir.Add(all, pfs, obj, "a", 5, tid)
			is(t, "Add without a free slot", got, err, nil, api.ErrFull)
		}
		around := append([]api.Elem{rec(slot("a", -1), 1, 0, val), rec(slot("a", 8), 1, 0, val)}, in(pfs, obj+1, all[0]), in(pfs+1, obj, all[0]))
		got, err = dir.Add(around, pfs, obj, "a", 5, 1)
		is(t, "Add beside records elsewhere", got, err, sorted(append(around, rec(slot("a", 0), 1, 0, "5:a"))...), api.OK)
	}
}

// TestP66LastTime: what is deleted at the last time is not live then.
func TestP66LastTime(t *testing.T) {
	l := []api.Elem{rec(slot("a", 0), 3, math.MaxInt32, "1:a")}
	m, err := dir.Add(l, pfs, obj, "a", 2, math.MaxInt32)
	is(t, "Add", m, err, append(slices.Clone(l), rec(slot("a", 0), math.MaxInt32, 0, "2:a")), api.OK)
	again, err := dir.Add(m, pfs, obj, "a", 3, math.MaxInt32)
	is(t, "Add again", again, err, nil, api.ErrThere)
	m, err = dir.Drop(m, pfs, obj, "a", math.MaxInt32)
	is(t, "Drop", m, err, l, api.OK)
	m, err = dir.Drop(m, pfs, obj, "a", math.MaxInt32)
	is(t, "Drop again", m, err, nil, api.ErrNone)
}

// TestP66Bounds adds to the objects with the smallest and greatest numbers.
func TestP66Bounds(t *testing.T) {
	for _, o := range [][2]int{{0, 0}, {0, 1 << 20}, {15, 0}, {15, 1 << 20}} {
		l, err := dir.Add(nil, o[0], o[1], "a", 5, 1)
		is(t, fmt.Sprint("Add to ", o), l, err, []api.Elem{in(o[0], o[1], rec(slot("a", 0), 1, 0, "5:a"))}, api.OK)
		l, err = dir.Drop(l, o[0], o[1], "a", 2)
		is(t, fmt.Sprint("Drop from ", o), l, err, []api.Elem{in(o[0], o[1], rec(slot("a", 0), 1, 2, "5:a"))}, api.OK)
	}
}

// TestP66ReturnsTheFirstError: run, object, name, number, entry, slot, time, capacity.
func TestP66ReturnsTheFirstError(t *testing.T) {
	numbers := append(badNumbers, 5)
	for _, tid := range []int{math.MinInt, 0, 1, 9, math.MaxInt32, math.MaxInt} {
		for _, of := range numbers {
			for _, name := range append(badNames, "a", "ab", "missing") {
				for _, x := range badRuns() {
					for _, o := range append(badObjects, [2]int{pfs, obj}) {
						got, err := dir.Add(x.l, o[0], o[1], name, of, tid)
						is(t, "Add to no run", got, err, nil, x.want)
					}
				}
				for _, o := range badObjects {
					got, err := dir.Add(history(), o[0], o[1], name, of, tid)
					is(t, "Add to no object", got, err, nil, api.ErrArg)
				}
			}
			for _, name := range badNames {
				got, err := dir.Add(history(), pfs, obj, name, of, tid)
				is(t, "Add of no name", got, err, nil, api.ErrForm)
			}
		}
		for _, of := range badNumbers {
			for _, name := range []string{"a", "ab", "missing"} {
				got, err := dir.Add(history(), pfs, obj, name, of, tid)
				is(t, "Add of no number", got, err, nil, api.ErrArg)
			}
		}
		for _, name := range []string{"a", "b", "ab", alike(2)[1]} {
			got, err := dir.Add(history(), pfs, obj, name, 5, tid)
			is(t, "Add of a name that is there", got, err, nil, api.ErrThere)
		}
	}
	for _, tid := range []int{math.MinInt, -1, 0, 1, math.MaxInt32 - 1, 1 << 31, math.MaxInt} {
		got, err := dir.Add(history(), pfs, obj, "missing", 5, tid)
		is(t, "Add at a wrong time", got, err, nil, api.ErrTid)
	}
}

// full is a run of n records, of which the first few are those of l. The last time is 5.
func full(n int, l ...api.Elem) []api.Elem {
	for i := len(l); i < n; i++ {
		l = append(l, in(pfs, obj+1, rec(i, 5, 0, "x")))
	}
	return sorted(l...)
}

// TestP66FullRuns: run.Put returns its errors, ErrTid first. In a run without capacity also a used slot needs a new record.
func TestP66FullRuns(t *testing.T) {
	for _, l := range [][]api.Elem{full(400), full(400, rec(slot("a", 0), 1, 5, "1:a"))} {
		for tid, want := range map[int]api.Errno{0: api.ErrTid, 4: api.ErrTid, 5: api.ErrFull, 6: api.ErrFull, math.MaxInt32: api.ErrFull, 1 << 31: api.ErrTid} {
			got, err := dir.Add(l, pfs, obj, "a", 5, tid)
			is(t, fmt.Sprint("Add to a full run at ", tid), got, err, nil, want)
		}
	}
	got, err := dir.Add(full(399), pfs, obj, "a", 5, 5)
	is(t, "Add of the last record", got, err, sorted(append(full(399), rec(slot("a", 0), 5, 0, "5:a"))...), api.OK)
}

func TestP67Drop(t *testing.T) {
	l := []api.Elem{rec(slot("a", 0), 2, 0, "1:a"), rec(slot("a", 3), 4, 0, "2:"+alike(2)[1])}
	got, err := dir.Drop(l, pfs, obj, "a", 4)
	is(t, "Drop", got, err, []api.Elem{rec(slot("a", 0), 2, 4, "1:a"), l[1]}, api.OK)
	got, err = dir.Drop(l, pfs, obj, alike(2)[1], 4)
	is(t, "Drop of what is new", got, err, l[:1], api.OK)
	got, err = dir.Drop(l, pfs, obj, alike(2)[1], 5)
	is(t, "Drop of the other name", got, err, []api.Elem{l[0], rec(slot("a", 3), 4, 5, "2:"+alike(2)[1])}, api.OK)
}

// TestP67TheExample: a deleted name is still found at the times at which it existed.
func TestP67TheExample(t *testing.T) {
	l, _ := dir.Add(nil, pfs, obj, "a", 12, 3)
	l, _ = dir.Drop(l, pfs, obj, "a", 6)
	l, _ = dir.Add(l, pfs, obj, "a", 13, 8)
	for tid := range 11 {
		switch {
		case tid >= 8:
			finds(t, l, "a", tid, 13, api.OK)
		case tid >= 3 && tid < 6:
			finds(t, l, "a", tid, 12, api.OK)
		default:
			finds(t, l, "a", tid, 0, api.ErrNone)
		}
	}
}

// TestP67FirstEntry: of two entries with a name the first one that is not deleted is dropped, then the other one.
func TestP67FirstEntry(t *testing.T) {
	l := []api.Elem{
		rec(slot("a", 0), 1, 2, "1:a"), rec(slot("a", 1), 1, 0, "01:a"), rec(slot("a", 2), 3, 0, "2:a"),
		rec(slot("a", 5), 1, 0, "3:a"), in(pfs, obj+1, rec(slot("a", 0), 1, 0, "4:a")),
	}
	one, err := dir.Drop(l, pfs, obj, "a", 7)
	want := slices.Clone(l)
	want[2].Gone = 7
	is(t, "Drop", one, err, want, api.OK)
	two, err := dir.Drop(one, pfs, obj, "a", 7)
	want[3].Gone = 7
	is(t, "Drop of the second entry", two, err, want, api.OK)
	none, err := dir.Drop(two, pfs, obj, "a", 7)
	is(t, "Drop of a third one", none, err, nil, api.ErrNone)
}

// TestP67FullRuns: a run without capacity does not keep names from being dropped.
func TestP67FullRuns(t *testing.T) {
	got, err := dir.Drop(full(400, rec(slot("a", 0), 5, 0, "5:a")), pfs, obj, "a", 5)
	is(t, "Drop", got, err, full(400, rec(slot("a", 0), 5, 0, "5:a"))[1:], api.OK)
	got, err = dir.Drop(full(400, rec(slot("a", 0), 4, 0, "5:a")), pfs, obj, "a", 5)
	is(t, "Drop", got, err, full(400, rec(slot("a", 0), 4, 5, "5:a")), api.OK)
}

// TestP67ReturnsTheFirstError: run, object, name, entry, time.
func TestP67ReturnsTheFirstError(t *testing.T) {
	for _, tid := range times {
		for _, name := range append(badNames, "a", "missing") {
			for _, x := range badRuns() {
				for _, o := range append(badObjects, [2]int{pfs, obj}) {
					got, err := dir.Drop(x.l, o[0], o[1], name, tid)
					is(t, "Drop from no run", got, err, nil, x.want)
				}
			}
			for _, o := range badObjects {
				got, err := dir.Drop(history(), o[0], o[1], name, tid)
				is(t, "Drop from no object", got, err, nil, api.ErrArg)
			}
		}
		for _, name := range badNames {
			got, err := dir.Drop(history(), pfs, obj, name, tid)
			is(t, "Drop of no name", got, err, nil, api.ErrForm)
		}
		for _, name := range []string{"missing", "B", "c", "A"} {
			got, err := dir.Drop(history(), pfs, obj, name, tid)
			is(t, "Drop of a name that is not there", got, err, nil, api.ErrNone)
		}
		got, err := dir.Drop(history(), pfs, obj, "ab", tid)
		if tid != math.MaxInt32 {
			is(t, "Drop at a wrong time", got, err, nil, api.ErrTid)
		} else if err != api.OK {
			t.Errorf("Drop at the last time returned %d", err)
		}
	}
}

// TestP2RunsAreNotModifiedNorShared calls each function twice and overwrites what it returns, with the spare capacity.
func TestP2RunsAreNotModifiedNorShared(t *testing.T) {
	l := slices.DeleteFunc(history(), func(e api.Elem) bool { return e.Gone == math.MaxInt32 })
	mark := rec(9, 9, 9, "overwritten")
	for name, call := range map[string]func(l []api.Elem) ([]api.Elem, api.Errno){
		"Find":                func(l []api.Elem) ([]api.Elem, api.Errno) { _, err := dir.Find(l, pfs, obj, "a", 9); return nil, err },
		"Add":                 func(l []api.Elem) ([]api.Elem, api.Errno) { return dir.Add(l, pfs, obj, "missing", 5, 9) },
		"Drop":                func(l []api.Elem) ([]api.Elem, api.Errno) { return dir.Drop(l, pfs, obj, "a", 9) },
		"Drop of what is new": func(l []api.Elem) ([]api.Elem, api.Errno) { return dir.Drop(l, pfs, obj, "a", 8) },
	} {
		arg := append(slices.Clone(l), rec(8, 8, 8, "spare"), rec(8, 8, 8, "spare"))
		before := slices.Clone(arg)
		got, err := call(arg[:len(l)])
		if err != api.OK {
			t.Fatalf("%s returned %d", name, err)
		}
		want := slices.Clone(got)
		overwrite(got, mark)
		again, _ := call(arg[:len(l)])
		if !slices.Equal(again, want) || !slices.Equal(got, slices.Repeat([]api.Elem{mark}, len(got))) {
			t.Errorf("two results of %s share memory", name)
		}
		overwrite(again, mark)
		if !slices.Equal(arg, before) {
			t.Errorf("%s modified its argument, or shares memory with it", name)
		}
	}
	names, _ := dir.List(l, pfs, obj, 9)
	want := slices.Clone(names)
	overwrite(names, "overwritten")
	if again, _ := dir.List(l, pfs, obj, 9); !slices.Equal(again, want) {
		t.Error("two results of List share memory")
	}
}

// overwrite fills a slice and its spare capacity.
func overwrite[E any](l []E, mark E) {
	l = l[:cap(l)]
	for i := range l {
		l[i] = mark
	}
}
