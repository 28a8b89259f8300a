package run_test

import (
	"math"
	"slices"
	"strings"
	"testing"

	"annalist/api"
	"annalist/run"
)

var (
	badKey  = api.Key{Pfs: 16}
	topKey  = api.Key{Pfs: 15, Obj: 1 << 20, Off: 1 << 30}
	badKeys = []api.Key{{Pfs: -1}, {Pfs: 16}, {Obj: -1}, {Obj: 1<<20 + 1}, {Off: -1}, {Off: 1<<30 + 1}, {Pfs: math.MinInt}}
	full    = strings.Repeat("v", 40)
	over    = strings.Repeat("v", 41)
)

// unordered is no run, and calls that are passed it return ErrForm whatever else is wrong.
var unordered = []api.Elem{rec(2, 1, 0, ""), rec(1, 1, 0, "")}

// rec is a record of a key that differs from others in its offset.
func rec(off, made, gone int, val string) api.Elem {
	return api.Elem{Key: at(off), Made: made, Gone: gone, Val: val}
}

func at(off int) api.Key { return api.Key{Off: off} }

// many is a run of n records of different keys, made at 1.
func many(n int) []api.Elem {
	var l []api.Elem
	for i := range n {
		l = append(l, rec(i, 1, 0, ""))
	}
	return l
}

// versions is a run of n records of one key, each deleted when the next one is made, and the last one not.
func versions(n int) []api.Elem {
	var l []api.Elem
	for i := range n {
		l = append(l, rec(0, i+1, i+2, ""))
	}
	l[n-1].Gone = 0
	return l
}

// history is a run of three keys in two realms with deletions, a time without the key, and a last time of 9.
func history() []api.Elem {
	return []api.Elem{
		rec(2, 1, 4, "a"),
		rec(2, 4, 5, "b"),
		rec(2, 7, 0, "c"),
		rec(5, 3, 9, "d"),
		{Key: api.Key{Pfs: 1}, Made: 2, Val: "e"},
	}
}

// invalid lists what Check rejects, with its error.
func invalid() []struct {
	name string
	l    []api.Elem
	want api.Errno
} {
	return []struct {
		name string
		l    []api.Elem
		want api.Errno
	}{
		{"too many", many(401), api.ErrLarge},
		{"too many, none of them valid", make([]api.Elem, 401), api.ErrLarge},
		{"too many and out of order", append(many(400), unordered...), api.ErrLarge},
		{"bad key", []api.Elem{{Key: badKey, Made: 1}}, api.ErrArg},
		{"made at 0", []api.Elem{{}}, api.ErrTid},
		{"made after the last time", []api.Elem{rec(0, 1<<31, 0, "")}, api.ErrTid},
		{"deleted when made", []api.Elem{rec(0, 3, 3, "")}, api.ErrTid},
		{"deleted before 0", []api.Elem{rec(0, 3, -1, "")}, api.ErrTid},
		{"value too long", []api.Elem{rec(0, 1, 0, over)}, api.ErrLarge},
		{"bad key last", append(many(3), api.Elem{Key: badKey, Made: 1}), api.ErrArg},
		{"keys descend", unordered, api.ErrForm},
		{"keys descend, times ascend", []api.Elem{rec(2, 1, 2, ""), rec(1, 3, 0, "")}, api.ErrForm},
		{"realms descend", []api.Elem{{Key: api.Key{Pfs: 1}, Made: 1}, {Key: api.Key{Off: 9}, Made: 2}}, api.ErrForm},
		{"descent at the end", append(many(9), rec(7, 1, 0, "")), api.ErrForm},
		{"twice the same", []api.Elem{rec(1, 1, 0, "x"), rec(1, 1, 0, "x")}, api.ErrForm},
		{"twice the same spot", []api.Elem{rec(1, 1, 2, ""), rec(1, 1, 3, "")}, api.ErrForm},
		{"times of a key descend", []api.Elem{rec(1, 5, 7, ""), rec(1, 2, 4, "")}, api.ErrForm},
		{"not deleted before the next", []api.Elem{rec(1, 1, 0, ""), rec(1, 2, 0, "")}, api.ErrForm},
		{"not deleted before the next, which is", []api.Elem{rec(1, 1, 0, ""), rec(1, 2, 3, "")}, api.ErrForm},
		{"deleted after the next was made", []api.Elem{rec(1, 1, 4, ""), rec(1, 3, 0, "")}, api.ErrForm},
		{"deleted after the next was deleted", []api.Elem{rec(1, 1, 9, ""), rec(1, 3, 4, "")}, api.ErrForm},
		{"third not deleted before the fourth", []api.Elem{rec(1, 1, 2, ""), rec(1, 2, 3, ""), rec(1, 3, 0, ""), rec(1, 4, 0, "")}, api.ErrForm},

		{"record before place: key", []api.Elem{rec(1, 1, 0, ""), {Key: api.Key{Pfs: -1}, Made: 1}}, api.ErrArg},
		{"record before place: time", []api.Elem{rec(1, 1, 0, ""), rec(0, 0, 0, "")}, api.ErrTid},
		{"record before place: value", []api.Elem{rec(1, 1, 0, ""), rec(1, 1, 0, over)}, api.ErrLarge},
		{"first record first: place, key", []api.Elem{rec(2, 1, 0, ""), rec(1, 1, 0, ""), {Key: badKey, Made: 1}}, api.ErrForm},
		{"first record first: value, place", []api.Elem{rec(2, 1, 0, over), rec(1, 1, 0, "")}, api.ErrLarge},
		{"first record first: time, key", []api.Elem{rec(2, 0, 0, ""), {Key: badKey, Made: 1}}, api.ErrTid},
	}
}

func TestP7CheckAcceptsRuns(t *testing.T) {
	for _, x := range []struct {
		name string
		l    []api.Elem
	}{
		{"nil", nil},
		{"empty", []api.Elem{}},
		{"one record", []api.Elem{rec(1, 1, 0, full)}},
		{"history", history()},
		{"later keys made earlier", []api.Elem{rec(1, 9, 0, ""), rec(2, 1, 0, "")}},
		{"different keys, not deleted", []api.Elem{rec(1, 1, 0, ""), rec(2, 2, 0, "")}},
		{"different keys, deleted later", []api.Elem{rec(1, 1, 9, ""), rec(2, 2, 3, "")}},
		{"deleted when the next is made", []api.Elem{rec(1, 1, 3, ""), rec(1, 3, 0, "")}},
		{"deleted before the next is made", []api.Elem{rec(1, 1, 2, ""), rec(1, 3, 0, "")}},
		{"greatest key and times", []api.Elem{{Key: topKey, Made: 1, Gone: math.MaxInt32}, {Key: topKey, Made: math.MaxInt32}}},
		{"400 keys", many(400)},
		{"400 versions", versions(400)},
	} {
		if got := run.Check(x.l); got != api.OK {
			t.Errorf("%s: Check = %d, want OK", x.name, got)
		}
	}
}

func TestP7CheckRejectsOthers(t *testing.T) {
	for _, x := range invalid() {
		if got := run.Check(x.l); got != x.want {
			t.Errorf("%s: Check = %d, want %d", x.name, got, x.want)
		}
	}
}

func TestP8Last(t *testing.T) {
	for _, x := range []struct {
		name string
		l    []api.Elem
		want int
	}{
		{"nil", nil, 0},
		{"empty", []api.Elem{}, 0},
		{"Made of the only record", []api.Elem{rec(1, 3, 0, "")}, 3},
		{"Gone of the only record", []api.Elem{rec(1, 3, 5, "")}, 5},
		{"Made of the first", []api.Elem{rec(1, 9, 0, ""), rec(2, 3, 5, "")}, 9},
		{"Gone of the first", []api.Elem{rec(1, 3, 9, ""), rec(2, 3, 5, ""), rec(3, 1, 0, "")}, 9},
		{"Made of the last", []api.Elem{rec(1, 3, 5, ""), rec(2, 9, 0, "")}, 9},
		{"Gone in the middle", history(), 9},
		{"greatest time", []api.Elem{rec(1, 1, math.MaxInt32, ""), rec(2, 1, 0, "")}, math.MaxInt32},
		{"400 versions", versions(400), 400},
	} {
		if got, err := run.Last(x.l); got != x.want || err != api.OK {
			t.Errorf("%s: Last = %d, %d, want %d, OK", x.name, got, err, x.want)
		}
	}
}

func TestP8LastReturnsTheErrorOfCheck(t *testing.T) {
	for _, x := range invalid() {
		if got, err := run.Last(x.l); got != 0 || err != x.want {
			t.Errorf("%s: Last = %d, %d, want 0, %d", x.name, got, err, x.want)
		}
	}
}

func TestP9At(t *testing.T) {
	l := history()
	other := api.Key{Pfs: 1}
	for _, x := range []struct {
		k    api.Key
		t    int
		want int // index of the record, or -1
	}{
		{at(2), 0, -1}, {at(2), 1, 0}, {at(2), 3, 0}, {at(2), 4, 1}, {at(2), 5, -1}, {at(2), 6, -1}, {at(2), 7, 2}, {at(2), 9, 2},
		{at(2), math.MaxInt32, 2}, {at(2), math.MaxInt, 2}, {at(2), -1, -1}, {at(2), math.MinInt, -1},
		{at(5), 2, -1}, {at(5), 3, 3}, {at(5), 8, 3}, {at(5), 9, -1}, {at(5), math.MaxInt, -1},
		{other, 1, -1}, {other, 2, 4}, {other, 100, 4},
		{at(0), 9, -1}, {at(3), 9, -1}, {at(6), 4, -1}, {api.Key{Obj: 1}, 4, -1}, {topKey, 4, -1},
		{api.Key{Pfs: 1, Off: 5}, 4, -1}, {api.Key{Obj: 1, Off: 2}, 1, -1},
	} {
		want, wantErr := api.Elem{}, api.ErrNone
		if x.want >= 0 {
			want, wantErr = l[x.want], api.OK
		}
		if got, err := run.At(l, x.k, x.t); got != want || err != wantErr {
			t.Errorf("At(%v, %d) = %v, %d, want %v, %d", x.k, x.t, got, err, want, wantErr)
		}
	}
	if got, err := run.At(nil, at(2), 1); got != (api.Elem{}) || err != api.ErrNone {
		t.Errorf("At without records = %v, %d, want ErrNone", got, err)
	}
	long := versions(400)
	for i, want := range long {
		if got, err := run.At(long, at(0), i+1); got != want || err != api.OK {
			t.Errorf("At(%d) of 400 versions = %v, %d, want %v, OK", i+1, got, err, want)
		}
	}
}

func TestP9AtReturnsTheFirstError(t *testing.T) {
	for _, x := range invalid() {
		if got, err := run.At(x.l, badKey, 0); got != (api.Elem{}) || err != x.want {
			t.Errorf("%s: At = %v, %d, want %d", x.name, got, err, x.want)
		}
	}
	for _, k := range badKeys {
		for _, l := range [][]api.Elem{nil, history()} {
			if got, err := run.At(l, k, 4); got != (api.Elem{}) || err != api.ErrArg {
				t.Errorf("At(%v) = %v, %d, want ErrArg", k, got, err)
			}
		}
	}
}

func TestP9Range(t *testing.T) {
	l := history()
	top := api.Key{Pfs: 15, Obj: 1 << 20, Off: 1 << 30}
	for _, x := range []struct {
		lo, hi api.Key
		t      int
		want   []int // indexes of the records
	}{
		{api.Key{}, top, 0, nil}, {api.Key{}, top, 1, []int{0}}, {api.Key{}, top, 2, []int{0, 4}},
		{api.Key{}, top, 3, []int{0, 3, 4}}, {api.Key{}, top, 4, []int{1, 3, 4}}, {api.Key{}, top, 5, []int{3, 4}},
		{api.Key{}, top, 7, []int{2, 3, 4}}, {api.Key{}, top, 9, []int{2, 4}},
		{api.Key{}, top, -1, nil}, {api.Key{}, top, math.MinInt, nil}, {api.Key{}, top, math.MaxInt, []int{2, 4}},
		{at(2), at(5), 4, []int{1, 3}}, {at(3), at(5), 4, []int{3}}, {at(2), at(4), 4, []int{1}}, {at(3), at(4), 4, nil},
		{at(2), at(2), 4, []int{1}}, {at(5), at(5), 4, []int{3}}, {at(0), at(1), 4, nil}, {at(6), top, 4, []int{4}},
		{api.Key{Pfs: 1}, api.Key{Pfs: 1}, 4, []int{4}}, {api.Key{Pfs: 1, Off: 1}, top, 4, nil},
		{at(5), at(2), 4, nil}, {top, api.Key{}, 4, nil}, {api.Key{Obj: 1}, at(9), 4, nil},
	} {
		var want []api.Elem
		for _, i := range x.want {
			want = append(want, l[i])
		}
		if got, err := run.Range(l, x.lo, x.hi, x.t); !slices.Equal(got, want) || err != api.OK {
			t.Errorf("Range(%v, %v, %d) = %v, %d, want %v, OK", x.lo, x.hi, x.t, got, err, want)
		}
	}
	if got, err := run.Range(nil, api.Key{}, top, 1); len(got) != 0 || err != api.OK {
		t.Errorf("Range without records = %v, %d, want none", got, err)
	}
	if got, err := run.Range(many(400), at(0), at(399), 1); !slices.Equal(got, many(400)) || err != api.OK {
		t.Errorf("Range of 400 records = %d records, %d", len(got), err)
	}
}

func TestP9RangeReturnsTheFirstError(t *testing.T) {
	for _, x := range invalid() {
		if got, err := run.Range(x.l, badKey, badKey, 0); len(got) != 0 || err != x.want {
			t.Errorf("%s: Range = %v, %d, want %d", x.name, got, err, x.want)
		}
	}
	for _, k := range badKeys {
		for _, bounds := range [][2]api.Key{{k, at(9)}, {at(1), k}, {k, k}} {
			for _, l := range [][]api.Elem{nil, history()} {
				if got, err := run.Range(l, bounds[0], bounds[1], 4); len(got) != 0 || err != api.ErrArg {
					t.Errorf("Range(%v) = %v, %d, want ErrArg", bounds, got, err)
				}
			}
		}
	}
}

func TestP10Put(t *testing.T) {
	l := history()
	one := api.Key{Pfs: 1}
	for _, x := range []struct {
		name string
		l    []api.Elem
		k    api.Key
		val  string
		t    int
		want []api.Elem
	}{
		{"first record", nil, at(5), "a", 1, []api.Elem{rec(5, 1, 0, "a")}},
		{"greatest arguments", nil, topKey, full, math.MaxInt32, []api.Elem{{Key: topKey, Made: math.MaxInt32, Val: full}}},
		{"empty value", nil, at(5), "", 1, []api.Elem{rec(5, 1, 0, "")}},
		{"least key", l, at(0), "x", 9, slices.Concat([]api.Elem{rec(0, 9, 0, "x")}, l)},
		{"key between two", l, at(3), "x", 9, slices.Concat(l[:3], []api.Elem{rec(3, 9, 0, "x")}, l[3:])},
		{"greatest key", l, topKey, "x", 9, slices.Concat(l, []api.Elem{{Key: topKey, Made: 9, Val: "x"}})},
		{"new version", l, at(2), "x", 9, slices.Concat(l[:2], []api.Elem{rec(2, 7, 9, "c"), rec(2, 9, 0, "x")}, l[3:])},
		{"new version much later", l, one, "x", math.MaxInt32, slices.Concat(l[:4], []api.Elem{
			{Key: one, Made: 2, Gone: math.MaxInt32, Val: "e"}, {Key: one, Made: math.MaxInt32, Val: "x"}})},
		{"new version with the same value", l, at(2), "c", 10, slices.Concat(l[:2], []api.Elem{rec(2, 7, 10, "c"), rec(2, 10, 0, "c")}, l[3:])},
		{"when it was deleted", l, at(5), "x", 9, slices.Concat(l[:4], []api.Elem{rec(5, 9, 0, "x")}, l[4:])},
		{"after it was deleted", l, at(5), "x", 12, slices.Concat(l[:4], []api.Elem{rec(5, 12, 0, "x")}, l[4:])},
		{"same time", versions(3), at(0), "x", 3, []api.Elem{rec(0, 1, 2, ""), rec(0, 2, 3, ""), rec(0, 3, 0, "x")}},
		{"same time, empty value", []api.Elem{rec(1, 1, 0, "x")}, at(1), "", 1, []api.Elem{rec(1, 1, 0, "")}},
		{"same time, other key", []api.Elem{rec(1, 1, 0, "x")}, at(2), "y", 1, []api.Elem{rec(1, 1, 0, "x"), rec(2, 1, 0, "y")}},
		{"last time of another key", []api.Elem{rec(1, 1, 0, "x"), rec(2, 1, 4, "")}, at(1), "y", 4,
			[]api.Elem{rec(1, 1, 4, "x"), rec(1, 4, 0, "y"), rec(2, 1, 4, "")}},
	} {
		if got, err := run.Put(x.l, x.k, x.val, x.t); !slices.Equal(got, x.want) || err != api.OK {
			t.Errorf("%s: Put = %v, %d, want %v, OK", x.name, got, err, x.want)
		}
	}
}

func TestP10PutAtOneAndFour(t *testing.T) {
	l, _ := run.Put(nil, at(1), "a", 1)
	l, err := run.Put(l, at(1), "b", 4)
	if want := []api.Elem{rec(1, 1, 4, "a"), rec(1, 4, 0, "b")}; !slices.Equal(l, want) || err != api.OK {
		t.Errorf("Put = %v, %d, want %v, OK", l, err, want)
	}
}

func TestP10PutIntoAFullRun(t *testing.T) {
	for _, x := range []struct {
		name string
		l    []api.Elem
		off  int
		t    int
		want int // length
		err  api.Errno
	}{
		{"399 and a new key", many(399), 399, 1, 400, api.OK},
		{"399 and a new version", many(399), 7, 2, 400, api.OK},
		{"400 and a new key", many(400), 400, 1, 0, api.ErrFull},
		{"400 and a new version", many(400), 7, 2, 0, api.ErrFull},
		{"400 and the same time", many(400), 7, 1, 400, api.OK},
		{"400 versions and the same time", versions(400), 0, 400, 400, api.OK},
		{"400 versions and a new one", versions(400), 0, 401, 0, api.ErrFull},
		{"400 and a deleted key", append(many(399), rec(399, 1, 2, "")), 399, 2, 0, api.ErrFull},
	} {
		got, err := run.Put(x.l, at(x.off), "new", x.t)
		if len(got) != x.want || err != x.err {
			t.Errorf("%s: Put = %d records, %d, want %d, %d", x.name, len(got), err, x.want, x.err)
		}
		if err != api.OK {
			continue
		}
		if e, err := run.At(got, at(x.off), x.t); e != rec(x.off, x.t, 0, "new") || err != api.OK {
			t.Errorf("%s: At = %v, %d", x.name, e, err)
		}
	}
}

func TestP10PutReturnsTheFirstError(t *testing.T) {
	for _, x := range invalid() {
		if got, err := run.Put(x.l, badKey, over, 0); len(got) != 0 || err != x.want {
			t.Errorf("%s: Put = %v, %d, want %d", x.name, got, err, x.want)
		}
	}
	l := history()
	for _, x := range []struct {
		name string
		l    []api.Elem
		k    api.Key
		val  string
		t    int
		want api.Errno
	}{
		{"value too long", l, at(2), over, 9, api.ErrLarge},
		{"value too long, same time", []api.Elem{rec(2, 9, 0, "")}, at(2), over, 9, api.ErrLarge},
		{"time 0", nil, at(2), "x", 0, api.ErrTid},
		{"negative time", nil, at(2), "x", -1, api.ErrTid},
		{"least number", nil, at(2), "x", math.MinInt, api.ErrTid},
		{"after the last time", l, at(2), "x", math.MaxInt32 + 1, api.ErrTid},
		{"greatest number", l, at(2), "x", math.MaxInt, api.ErrTid},
		{"before Last, which is a Gone", l, at(2), "x", 8, api.ErrTid},
		{"before Last, which is a Made", []api.Elem{rec(1, 9, 0, "")}, at(2), "x", 8, api.ErrTid},
		{"when made, before Last", l, at(2), "x", 7, api.ErrTid},
		{"key before time", l, badKey, "x", 0, api.ErrArg},
		{"key before value", l, badKey, over, 9, api.ErrArg},
		{"time before value", l, at(2), over, 0, api.ErrTid},
		{"value before Last", l, at(2), over, 8, api.ErrLarge},
		{"record before room", many(400), at(400), over, 1, api.ErrLarge},
		{"Last before room", append(many(399), rec(399, 5, 0, "")), at(400), "x", 4, api.ErrTid},
	} {
		if got, err := run.Put(x.l, x.k, x.val, x.t); len(got) != 0 || err != x.want {
			t.Errorf("%s: Put = %v, %d, want %d", x.name, got, err, x.want)
		}
	}
	for _, k := range badKeys {
		if got, err := run.Put(l, k, "x", 9); len(got) != 0 || err != api.ErrArg {
			t.Errorf("Put(%v) = %v, %d, want ErrArg", k, got, err)
		}
	}
}

func TestP11Cut(t *testing.T) {
	l := history()
	one := api.Key{Pfs: 1}
	for _, x := range []struct {
		name string
		l    []api.Elem
		k    api.Key
		t    int
		want []api.Elem
	}{
		{"at the last time", l, at(2), 9, slices.Concat(l[:2], []api.Elem{rec(2, 7, 9, "c")}, l[3:])},
		{"later", l, one, 20, slices.Concat(l[:4], []api.Elem{{Key: one, Made: 2, Gone: 20, Val: "e"}})},
		{"at the greatest time", l, at(2), math.MaxInt32, slices.Concat(l[:2], []api.Elem{rec(2, 7, math.MaxInt32, "c")}, l[3:])},
		{"only record, when made", []api.Elem{rec(1, 1, 0, "")}, at(1), 1, nil},
		{"when made, with versions before", versions(3), at(0), 3, []api.Elem{rec(0, 1, 2, ""), rec(0, 2, 3, "")}},
		{"when made, first of several", many(3), at(0), 1, many(3)[1:]},
		{"when made, among others", many(3), at(1), 1, []api.Elem{rec(0, 1, 0, ""), rec(2, 1, 0, "")}},
		{"when made at the greatest time", []api.Elem{rec(1, math.MaxInt32, 0, "")}, at(1), math.MaxInt32, nil},
		{"full, after made", many(400), at(0), 2, slices.Concat([]api.Elem{rec(0, 1, 2, "")}, many(400)[1:])},
		{"full, when made", many(400), at(399), 1, many(399)},
	} {
		if got, err := run.Cut(x.l, x.k, x.t); !slices.Equal(got, x.want) || err != api.OK {
			t.Errorf("%s: Cut = %v, %d, want %v, OK", x.name, got, err, x.want)
		}
	}
}

func TestP11CutReturnsTheFirstError(t *testing.T) {
	for _, x := range invalid() {
		if got, err := run.Cut(x.l, badKey, 0); len(got) != 0 || err != x.want {
			t.Errorf("%s: Cut = %v, %d, want %d", x.name, got, err, x.want)
		}
	}
	l := history()
	for _, x := range []struct {
		name string
		l    []api.Elem
		k    api.Key
		t    int
		want api.Errno
	}{
		{"no records", nil, at(2), 1, api.ErrNone},
		{"key without records", l, at(3), 9, api.ErrNone},
		{"least key, without records", l, at(0), 9, api.ErrNone},
		{"greatest key, without records", l, topKey, 9, api.ErrNone},
		{"deleted at this time", l, at(5), 9, api.ErrNone},
		{"deleted before", l, at(5), 10, api.ErrNone},
		{"time 0", l, at(2), 0, api.ErrTid},
		{"negative time", l, at(2), -1, api.ErrTid},
		{"least number", nil, at(2), math.MinInt, api.ErrTid},
		{"after the last time", l, at(2), math.MaxInt32 + 1, api.ErrTid},
		{"greatest number", l, at(2), math.MaxInt, api.ErrTid},
		{"before Last, which is a Gone", l, at(2), 8, api.ErrTid},
		{"before Last, which is a Made", []api.Elem{rec(1, 9, 0, ""), rec(2, 1, 0, "")}, at(2), 8, api.ErrTid},
		{"when made, before Last", l, at(2), 7, api.ErrTid},
		{"key before time", l, badKey, 0, api.ErrArg},
		{"key before Last", l, badKey, 8, api.ErrArg},
		{"time before absence, no records", nil, at(2), 0, api.ErrTid},
		{"time before absence, greatest", l, at(3), math.MaxInt, api.ErrTid},
		{"Last before absence", l, at(3), 8, api.ErrTid},
	} {
		if got, err := run.Cut(x.l, x.k, x.t); len(got) != 0 || err != x.want {
			t.Errorf("%s: Cut = %v, %d, want %d", x.name, got, err, x.want)
		}
	}
	for _, k := range badKeys {
		if got, err := run.Cut(l, k, 9); len(got) != 0 || err != api.ErrArg {
			t.Errorf("Cut(%v) = %v, %d, want ErrArg", k, got, err)
		}
	}
}
