package snap_test

import (
	"fmt"
	"maps"
	"math"
	"math/rand/v2"
	"slices"
	"strings"
	"testing"

	"annalist/api"
	"annalist/dir"
	"annalist/snap"
)

// badNames are no names.
var badNames = []string{"", ".", "..", "a/b", "/", "a@b", "@", "a b", "\x00", "a\n", "\x7f", "\x80", "\u00e9", "thirteen-byte", strings.Repeat("x", 500)}

// badTids are numbers that may have no name.
var badTids = []int{-1, 1 << 31, 1 << 32, math.MinInt, math.MaxInt}

// names are in byte order.
var names = []string{"!", "%20", "-", "...", ".a", "0", "00", "1", "10", "2", ":", "A", "Z", "_", "a", "a!", "aA", "aa", "b", "twelve-bytes", "z", "~", "~~~~~~~~~~~~"}

// of are snapshots, given as names and times.
func of(pairs ...any) []api.Snap {
	var l []api.Snap
	for i := 0; i < len(pairs); i += 2 {
		l = append(l, api.Snap{Name: pairs[i].(string), Tid: pairs[i+1].(int)})
	}
	return l
}

// many are n snapshots.
func many(n int) []api.Snap {
	var l []api.Snap
	for i := range n {
		l = append(l, api.Snap{Name: fmt.Sprintf("s%02d", i), Tid: 100 - i})
	}
	return l
}

// bad is a list that is not valid, with its error.
type bad struct {
	name string
	l    []api.Snap
	want api.Errno
}

func badLists() []bad {
	l := []bad{
		{"too many", many(21), api.ErrLarge},
		{"too many, none of them valid", make([]api.Snap, 21), api.ErrLarge},
		{"too many, the first one without a name", append(of("", 1), many(20)...), api.ErrLarge},
		{"too many, the first one without a time", append(of("a", -1), many(20)...), api.ErrLarge},
		{"much too many", make([]api.Snap, 1000), api.ErrLarge},

		{"names descend", of("b", 1, "a", 2), api.ErrForm},
		{"names and times descend", of("b", 2, "a", 1), api.ErrForm},
		{"twice the same", of("a", 1, "a", 1), api.ErrForm},
		{"twice the same name", of("a", 1, "a", 2), api.ErrForm},
		{"a name before its beginning", of("aa", 1, "a", 2), api.ErrForm},
		{"order of numbers", of("2", 1, "10", 2), api.ErrForm},
		{"order without case", of("a", 1, "B", 2), api.ErrForm},
		{"descent at the end", append(many(19), of("s17", 1)...), api.ErrForm},
		{"the same name at the end", append(many(19), of("s18", 1)...), api.ErrForm},

		{"name before time", of("", -1), api.ErrForm},
		{"order before time", of("b", 1, "a", -1), api.ErrForm},
		{"the first snapshot first: time, name", of("a", -1, "", 1), api.ErrTid},
		{"the first snapshot first: time, order", of("b", 1<<31, "a", 1), api.ErrTid},
		{"the first snapshot first: name, time", of(".", 1, "a", -1), api.ErrForm},
		{"the first snapshot first: order, time", of("b", 1, "a", 1, "c", -1), api.ErrForm},
	}
	for _, name := range badNames {
		l = append(l, bad{fmt.Sprintf("no name %q", name), of(name, 1), api.ErrForm})
		l = append(l, bad{fmt.Sprintf("no name %q at the start", name), append(of(name, 1), many(3)...), api.ErrForm})
		l = append(l, bad{fmt.Sprintf("no name %q at the end", name), append(many(3), of(name, 1)...), api.ErrForm})
	}
	for _, tid := range badTids {
		l = append(l, bad{fmt.Sprint("no time ", tid), of("a", tid), api.ErrTid})
		l = append(l, bad{fmt.Sprint("no time at the start ", tid), append(of("a", tid), many(3)...), api.ErrTid})
		l = append(l, bad{fmt.Sprint("no time at the end ", tid), append(many(3), of("z", tid)...), api.ErrTid})
	}
	return l
}

// is fails the test unless a call returned these snapshots, or this error and none.
func is(t *testing.T, call string, got []api.Snap, err api.Errno, want []api.Snap, wantErr api.Errno) {
	t.Helper()
	if err != wantErr || !slices.Equal(got, want) {
		t.Fatalf("%s: %v, %d, want %v, %d", call, got, err, want, wantErr)
	}
}

// finds fails the test unless Find returns this time and error.
func finds(t *testing.T, l []api.Snap, name string, tid int, want api.Errno) {
	t.Helper()
	if got, err := snap.Find(l, name); got != tid || err != want {
		t.Fatalf("Find(%v, %q): %d, %d, want %d, %d", l, name, got, err, tid, want)
	}
}

// hasTimes fails the test unless Times returns these times and this error.
func hasTimes(t *testing.T, l []api.Snap, want []int, wantErr api.Errno) {
	t.Helper()
	if got, err := snap.Times(l); !slices.Equal(got, want) || err != wantErr {
		t.Fatalf("Times(%v): %v, %d, want %v, %d", l, got, err, want, wantErr)
	}
}

func TestP81CheckAccepts(t *testing.T) {
	for _, l := range [][]api.Snap{
		nil, {}, of("a", 0), of("a", math.MaxInt32), of("a", 5, "b", 5), of("a", 9, "b", 5, "c", 9),
		of("a", 1, "aa", 1), of("10", 1, "2", 1), of("B", 1, "a", 1), of("...", 1, ".a", 1), of("twelve-bytes", 1), many(19), many(20),
	} {
		if got := snap.Check(l); got != api.OK {
			t.Errorf("Check(%v) = %d, want OK", l, got)
		}
	}
	for i := range names {
		for j := range i {
			if got := snap.Check(of(names[j], 2, names[i], 1)); got != api.OK {
				t.Errorf("Check of %q and %q = %d, want OK", names[j], names[i], got)
			}
			if got := snap.Check(of(names[i], 1, names[j], 2)); got != api.ErrForm {
				t.Errorf("Check of %q and %q = %d, want ErrForm", names[i], names[j], got)
			}
		}
	}
}

func TestP81CheckRejectsOthers(t *testing.T) {
	for _, x := range badLists() {
		if got := snap.Check(x.l); got != x.want {
			t.Errorf("%s: Check = %d, want %d", x.name, got, x.want)
		}
	}
}

// TestP81Names: names are those of directories.
func TestP81Names(t *testing.T) {
	for c := range 256 {
		for _, name := range []string{string([]byte{byte(c)}), string([]byte{'a', byte(c), 'b'})} {
			want, finding := api.OK, api.OK
			if !dir.Name(name) {
				want, finding = api.ErrForm, api.ErrNone
			}
			if got := snap.Check(of(name, 1)); got != want {
				t.Errorf("Check of %q = %d, want %d", name, got, want)
			}
			l, err := snap.Add(nil, name, 1)
			if err != want || len(l) == 0 && want == api.OK {
				t.Errorf("Add of %q: %v, %d, want %d", name, l, err, want)
			}
			finds(t, l, name, len(l), finding)
		}
	}
}

// TestP81AllReturnTheErrorOfCheck: before any other.
func TestP81AllReturnTheErrorOfCheck(t *testing.T) {
	for _, x := range badLists() {
		for _, name := range append(badNames, "a", "b", "missing", "s00", "s20") {
			for _, tid := range append(badTids, 0, 1, math.MaxInt32) {
				got, err := snap.Add(x.l, name, tid)
				is(t, x.name+": Add", got, err, nil, x.want)
			}
			got, err := snap.Drop(x.l, name)
			is(t, x.name+": Drop", got, err, nil, x.want)
			finds(t, x.l, name, 0, x.want)
		}
		hasTimes(t, x.l, nil, x.want)
	}
}

func TestP82Add(t *testing.T) {
	l := of("b", 5, "bb", 3, "d", 5)
	for _, x := range []struct {
		l    []api.Snap
		name string
		tid  int
		want []api.Snap
	}{
		{nil, "a", 0, of("a", 0)},
		{[]api.Snap{}, "twelve-bytes", math.MaxInt32, of("twelve-bytes", math.MaxInt32)},
		{l, "a", 9, of("a", 9, "b", 5, "bb", 3, "d", 5)},
		{l, "b!", 5, of("b", 5, "b!", 5, "bb", 3, "d", 5)},
		{l, "c", 1, of("b", 5, "bb", 3, "c", 1, "d", 5)},
		{l, "e", 4, of("b", 5, "bb", 3, "d", 5, "e", 4)},
		{l, "D", 0, of("D", 0, "b", 5, "bb", 3, "d", 5)},
		{many(19), "s00x", 7, slices.Insert(many(19), 1, of("s00x", 7)...)},
		{many(19), "z", 7, append(many(19), of("z", 7)...)},
		{many(19), "A", 7, append(of("A", 7), many(19)...)},
	} {
		got, err := snap.Add(x.l, x.name, x.tid)
		is(t, fmt.Sprintf("Add(%v, %q, %d)", x.l, x.name, x.tid), got, err, x.want, api.OK)
	}
}

// TestP82AddReturnsTheFirstError: name, time, a snapshot with this name, capacity.
func TestP82AddReturnsTheFirstError(t *testing.T) {
	for _, l := range [][]api.Snap{nil, of("a", 1), many(19), many(20)} {
		for _, name := range badNames {
			for _, tid := range append(badTids, 0, 1, math.MaxInt32) {
				got, err := snap.Add(l, name, tid)
				is(t, fmt.Sprintf("Add of %q", name), got, err, nil, api.ErrForm)
			}
		}
		for _, name := range []string{"a", "s00", "s19", "missing"} {
			for _, tid := range badTids {
				got, err := snap.Add(l, name, tid)
				is(t, fmt.Sprintf("Add of %q at %d", name, tid), got, err, nil, api.ErrTid)
			}
		}
		for _, s := range l {
			for _, tid := range []int{0, s.Tid, s.Tid + 1, math.MaxInt32} {
				got, err := snap.Add(l, s.Name, tid)
				is(t, fmt.Sprintf("Add of %q again", s.Name), got, err, nil, api.ErrThere)
			}
		}
	}
	for _, name := range append(names, "s00x", "s20") {
		got, err := snap.Add(many(20), name, 81)
		is(t, fmt.Sprintf("Add of %q to 20", name), got, err, nil, api.ErrFull)
	}
}

func TestP82Drop(t *testing.T) {
	l := of("b", 5, "bb", 3, "d", 5)
	for _, x := range []struct {
		name string
		want []api.Snap
	}{{"b", l[1:]}, {"bb", of("b", 5, "d", 5)}, {"d", l[:2]}} {
		got, err := snap.Drop(l, x.name)
		is(t, fmt.Sprintf("Drop(%v, %q)", l, x.name), got, err, x.want, api.OK)
	}
	got, err := snap.Drop(of("a", 0), "a")
	is(t, "Drop of the only one", got, err, nil, api.OK)
	for i := range 20 {
		got, err := snap.Drop(many(20), many(20)[i].Name)
		is(t, "Drop of one in 20", got, err, slices.Delete(many(20), i, i+1), api.OK)
	}
}

// TestP82P83ErrNone: what is no name is that of no snapshot.
func TestP82P83ErrNone(t *testing.T) {
	for _, l := range [][]api.Snap{nil, of("b", 5, "bb", 3, "d", 5), many(20)} {
		for _, name := range append(badNames, "a", "B", "b!", "bbb", "c", "e", "s", "s0", "s000", "s20", "~") {
			got, err := snap.Drop(l, name)
			is(t, fmt.Sprintf("Drop(%v, %q)", l, name), got, err, nil, api.ErrNone)
			finds(t, l, name, 0, api.ErrNone)
		}
	}
}

func TestP83Find(t *testing.T) {
	for _, l := range [][]api.Snap{of("a", 0), of("a", math.MaxInt32), of("b", 5, "bb", 3, "d", 5), of("10", 7, "2", 8, "A", 9, "a", 0), many(20)} {
		for _, s := range l {
			finds(t, l, s.Name, s.Tid, api.OK)
		}
	}
}

func TestP83Times(t *testing.T) {
	for _, x := range []struct {
		l    []api.Snap
		want []int
	}{
		{nil, nil},
		{[]api.Snap{}, nil},
		{of("a", 0), []int{0}},
		{of("a", 5, "b", 5), []int{5}},
		{of("a", 5, "b", 9), []int{5, 9}},
		{of("a", 9, "b", 5), []int{5, 9}},
		{of("a", 9, "b", 5, "c", 9, "d", 0, "e", 5, "f", 9), []int{0, 5, 9}},
		{of("a", math.MaxInt32, "b", 0, "c", 10, "d", 2, "e", math.MaxInt32), []int{0, 2, 10, math.MaxInt32}},
		{many(20), []int{81, 82, 83, 84, 85, 86, 87, 88, 89, 90, 91, 92, 93, 94, 95, 96, 97, 98, 99, 100}},
	} {
		hasTimes(t, x.l, x.want, api.OK)
	}
}

// TestP83TheExample: two names may have the same time. It is listed until both are dropped.
func TestP83TheExample(t *testing.T) {
	l, _ := snap.Add(nil, "b", 5)
	l, err := snap.Add(l, "a", 5)
	is(t, "Add", l, err, of("a", 5, "b", 5), api.OK)
	finds(t, l, "a", 5, api.OK)
	finds(t, l, "b", 5, api.OK)
	hasTimes(t, l, []int{5}, api.OK)
	l, err = snap.Drop(l, "a")
	is(t, "Drop", l, err, of("b", 5), api.OK)
	hasTimes(t, l, []int{5}, api.OK)
	l, err = snap.Drop(l, "b")
	is(t, "Drop", l, err, nil, api.OK)
	hasTimes(t, l, nil, api.OK)
}

// TestP82P83Stories adds and drops at random and compares with a map.
func TestP82P83Stories(t *testing.T) {
	for seed := range uint64(20) {
		r := rand.New(rand.NewPCG(seed, 1))
		all := append(slices.Clone(names), "c", "d", "e")
		now := map[string]int{}
		var l []api.Snap
		for range 400 {
			name, tid := all[r.IntN(len(all))], r.IntN(9)
			_, there := now[name]
			want := api.OK
			var m []api.Snap
			var err api.Errno
			if r.IntN(4) > 0 {
				m, err = snap.Add(l, name, tid)
				switch {
				case there:
					want = api.ErrThere
				case len(now) == 20:
					want = api.ErrFull
				default:
					now[name] = tid
				}
			} else {
				m, err = snap.Drop(l, name)
				if delete(now, name); !there {
					want = api.ErrNone
				}
			}
			if err != want {
				t.Fatalf("seed %d: a change of %q in %v returned %d, want %d", seed, name, l, err, want)
			}
			if err == api.OK {
				l = m
			}
			same(t, l, all, now)
		}
	}
}

// same fails the test unless the snapshots are these.
func same(t *testing.T, l []api.Snap, all []string, now map[string]int) {
	t.Helper()
	var want []api.Snap
	for _, name := range slices.Sorted(maps.Keys(now)) {
		want = append(want, api.Snap{Name: name, Tid: now[name]})
	}
	is(t, "a story", l, snap.Check(l), want, api.OK)
	for _, name := range all {
		if tid, there := now[name]; there {
			finds(t, l, name, tid, api.OK)
		} else {
			finds(t, l, name, 0, api.ErrNone)
		}
	}
	hasTimes(t, l, slices.Compact(slices.Sorted(maps.Values(now))), api.OK)
}

// overwrite fills a slice and its spare capacity.
func overwrite[E any](l []E, mark E) {
	l = l[:cap(l)]
	for i := range l {
		l[i] = mark
	}
}

// unshared calls a function twice and overwrites what it returns, with the spare capacity.
// It fails the test if that changes the other result, or if the argument has changed.
func unshared[E comparable](t *testing.T, name string, mark E, l []api.Snap, call func(l []api.Snap) ([]E, api.Errno)) {
	t.Helper()
	arg := append(slices.Clone(l), of("spare", 1, "spare", 2)...)
	before := slices.Clone(arg)
	got, err := call(arg[:len(l)])
	if err != api.OK {
		t.Fatalf("%s returned %d", name, err)
	}
	want := slices.Clone(got)
	overwrite(got, mark)
	again, _ := call(arg[:len(l)])
	if !slices.Equal(again, want) {
		t.Errorf("two results of %s share memory", name)
	}
	overwrite(again, mark)
	if !slices.Equal(arg, before) {
		t.Errorf("%s modified its argument, or shares memory with it", name)
	}
}

func TestP2ArgumentsAreNotModifiedNorShared(t *testing.T) {
	mark := api.Snap{Name: "overwritten", Tid: -1}
	for _, l := range [][]api.Snap{nil, of("b", 5), of("a", 9, "b", 5, "c", 5, "y", 5), many(19)} {
		for _, name := range []string{"A", "bb", "z"} {
			unshared(t, "Add", mark, l, func(l []api.Snap) ([]api.Snap, api.Errno) { return snap.Add(l, name, 5) })
		}
		for _, s := range l {
			unshared(t, "Drop", mark, l, func(l []api.Snap) ([]api.Snap, api.Errno) { return snap.Drop(l, s.Name) })
			unshared(t, "Find", mark, l, func(l []api.Snap) ([]api.Snap, api.Errno) {
				_, err := snap.Find(l, s.Name)
				return nil, err
			})
		}
		unshared(t, "Check", mark, l, func(l []api.Snap) ([]api.Snap, api.Errno) { return nil, snap.Check(l) })
		unshared(t, "Times", -1, l, snap.Times)
	}
}
