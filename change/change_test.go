package change_test

import (
	"fmt"
	"math"
	"slices"
	"strings"
	"testing"

	"annalist/api"
	"annalist/change"
)

var (
	topKey  = api.Key{Pfs: 15, Obj: 1 << 20, Off: 1 << 30}
	badKeys = []api.Key{
		{Pfs: -1}, {Pfs: 16}, {Obj: -1}, {Obj: 1<<20 + 1}, {Off: -1}, {Off: 1<<30 + 1},
		{Pfs: math.MinInt}, {Obj: math.MaxInt}, {Off: 1 << 32}, {Pfs: 16, Obj: -1, Off: -1},
	}
	full = strings.Repeat("v", 40)
	over = strings.Repeat("v", 41)
)

// times are of all sorts.
var times = []int{math.MinInt, -1, 0, 1, 2, 3, 4, 5, 6, 7, 8, 9, 10, math.MaxInt32 - 1, math.MaxInt32, 1 << 31, 1<<32 + 5, math.MaxInt}

func at(off int) api.Key { return api.Key{Off: off} }

// rec is a record of a key that differs from others in its offset.
func rec(off, made, gone int, val string) api.Elem {
	return api.Elem{Key: at(off), Made: made, Gone: gone, Val: val}
}

// makes, drops and turns are the changes of a key: it gets a record, loses it, or its record gets another value.
func makes(off int, is string) api.Change { return api.Change{Key: at(off), Has: true, Is: is} }
func drops(off int, was string) api.Change {
	return api.Change{Key: at(off), Had: true, Was: was}
}
func turns(off int, was, is string) api.Change {
	return api.Change{Key: at(off), Had: true, Has: true, Was: was, Is: is}
}

// of is a change of another key.
func of(k api.Key, c api.Change) api.Change {
	c.Key = k
	return c
}

// many are n changes that make the keys from off on.
func many(off, n int) []api.Change {
	var l []api.Change
	for i := range n {
		l = append(l, makes(off+i, "x"))
	}
	return l
}

// flips are all valid changes of one key between these states: no record, and a record with each of these values.
func flips(off int, vals ...string) []api.Change {
	var l []api.Change
	for _, v := range vals {
		l = append(l, makes(off, v), drops(off, v))
		for _, w := range vals {
			if v != w {
				l = append(l, turns(off, v, w))
			}
		}
	}
	return l
}

// badRun is a list that is no run, with the error of run.Check.
type badRun struct {
	l    []api.Elem
	want api.Errno
}

func badRuns() []badRun {
	return []badRun{
		{make([]api.Elem, 401), api.ErrLarge},
		{[]api.Elem{{Key: badKeys[0], Made: 1}}, api.ErrArg},
		{[]api.Elem{rec(1, 0, 0, "")}, api.ErrTid},
		{[]api.Elem{rec(1, 3, 3, "")}, api.ErrTid},
		{[]api.Elem{rec(1, 1, 0, over)}, api.ErrLarge},
		{[]api.Elem{rec(2, 1, 0, ""), rec(1, 1, 0, "")}, api.ErrForm},
		{[]api.Elem{rec(1, 1, 0, ""), rec(1, 2, 0, "")}, api.ErrForm},
	}
}

// badList is a list of changes that is not valid, with its error.
type badList struct {
	name string
	l    []api.Change
	want api.Errno
}

func badLists() []badList {
	l := []badList{
		{"too many", many(0, 401), api.ErrLarge},
		{"too many, none of them valid", make([]api.Change, 401), api.ErrLarge},
		{"too many, the first one with a bad key", append([]api.Change{of(badKeys[0], makes(0, ""))}, many(0, 400)...), api.ErrLarge},

		{"Was too long", []api.Change{drops(1, over)}, api.ErrLarge},
		{"Is too long", []api.Change{makes(1, over)}, api.ErrLarge},
		{"Was much too long", []api.Change{turns(1, strings.Repeat(over, 100), "")}, api.ErrLarge},
		{"Is much too long", []api.Change{turns(1, "", strings.Repeat(over, 100))}, api.ErrLarge},

		{"nothing at all", []api.Change{{}}, api.ErrForm},
		{"no record before and after", []api.Change{{Key: at(1)}}, api.ErrForm},
		{"the same record before and after", []api.Change{turns(1, "a", "a")}, api.ErrForm},
		{"the same empty value before and after", []api.Change{turns(1, "", "")}, api.ErrForm},
		{"Was without Had", []api.Change{{Key: at(1), Has: true, Was: "a", Is: "b"}}, api.ErrForm},
		{"Was without Had, Is empty", []api.Change{{Key: at(1), Has: true, Was: "a"}}, api.ErrForm},
		{"Was without Had, the same value", []api.Change{{Key: at(1), Has: true, Was: "a", Is: "a"}}, api.ErrForm},
		{"Was without any record", []api.Change{{Key: at(1), Was: "a"}}, api.ErrForm},
		{"Is without Has", []api.Change{{Key: at(1), Had: true, Was: "a", Is: "b"}}, api.ErrForm},
		{"Is without Has, Was empty", []api.Change{{Key: at(1), Had: true, Is: "b"}}, api.ErrForm},
		{"Is without Has, the same value", []api.Change{{Key: at(1), Had: true, Was: "a", Is: "a"}}, api.ErrForm},
		{"Is without any record", []api.Change{{Key: at(1), Is: "b"}}, api.ErrForm},
		{"two values without any record", []api.Change{{Key: at(1), Was: "a", Is: "b"}}, api.ErrForm},

		{"twice the same change", []api.Change{makes(1, "a"), makes(1, "a")}, api.ErrForm},
		{"twice the same key", []api.Change{makes(1, "a"), turns(1, "a", "b")}, api.ErrForm},
		{"offsets descend", []api.Change{makes(2, "a"), makes(1, "a")}, api.ErrForm},
		{"objects descend", []api.Change{of(api.Key{Obj: 1}, makes(0, "")), of(api.Key{Off: 9}, makes(0, ""))}, api.ErrForm},
		{"realms descend", []api.Change{of(api.Key{Pfs: 1}, makes(0, "")), of(api.Key{Obj: 9, Off: 9}, makes(0, ""))}, api.ErrForm},
		{"descent at the end", append(many(1, 9), makes(8, "x")), api.ErrForm},

		{"key before value", []api.Change{of(badKeys[1], drops(0, over))}, api.ErrArg},
		{"key before form", []api.Change{{Key: badKeys[1]}}, api.ErrArg},
		{"key before order", []api.Change{makes(1, ""), of(badKeys[0], makes(0, ""))}, api.ErrArg},
		{"value before form: Was without Had", []api.Change{{Key: at(1), Was: over}}, api.ErrLarge},
		{"value before form: Is without Has", []api.Change{{Key: at(1), Is: over}}, api.ErrLarge},
		{"value before form: Was without Had, long Is", []api.Change{{Key: at(1), Has: true, Was: "a", Is: over}}, api.ErrLarge},
		{"value before form: nothing changes", []api.Change{turns(1, over, over)}, api.ErrLarge},
		{"value before order", []api.Change{makes(2, ""), makes(1, over)}, api.ErrLarge},

		{"the first change first: form, key", []api.Change{{Key: at(1)}, of(badKeys[0], makes(0, ""))}, api.ErrForm},
		{"the first change first: form, value", []api.Change{{Key: at(1)}, makes(2, over)}, api.ErrForm},
		{"the first change first: order, key", []api.Change{makes(2, ""), makes(1, ""), of(badKeys[1], makes(0, ""))}, api.ErrForm},
		{"the first change first: value, key", []api.Change{makes(1, over), of(badKeys[1], makes(0, ""))}, api.ErrLarge},
		{"the first change first: value, order", []api.Change{makes(2, over), makes(1, "")}, api.ErrLarge},
		{"the first change first: key, value", []api.Change{of(badKeys[0], makes(0, "")), makes(1, over)}, api.ErrArg},
		{"the first change first: key, order", []api.Change{of(badKeys[1], makes(0, "")), makes(1, "")}, api.ErrArg},
	}
	for _, k := range badKeys {
		l = append(l, badList{fmt.Sprint("bad key ", k), []api.Change{of(k, makes(0, ""))}, api.ErrArg})
		l = append(l, badList{fmt.Sprint("bad key at the end ", k), append(many(0, 9), of(k, makes(0, ""))), api.ErrArg})
	}
	return l
}

// is fails the test unless a call returned these changes, or this error and no changes.
func is(t *testing.T, call string, got []api.Change, err api.Errno, want []api.Change, wantErr api.Errno) {
	t.Helper()
	if err != wantErr || !slices.Equal(got, want) {
		t.Fatalf("%s: %v, %d, want %v, %d", call, got, err, want, wantErr)
	}
}

func TestP77CheckAccepts(t *testing.T) {
	for _, x := range []struct {
		name string
		l    []api.Change
	}{
		{"nil", nil},
		{"empty", []api.Change{}},
		{"made", []api.Change{makes(1, "a")}},
		{"made, empty", []api.Change{makes(1, "")}},
		{"dropped", []api.Change{drops(1, "a")}},
		{"dropped, empty", []api.Change{drops(1, "")}},
		{"turned", []api.Change{turns(1, "a", "b")}},
		{"turned from empty", []api.Change{turns(1, "", "b")}},
		{"turned to empty", []api.Change{turns(1, "a", "")}},
		{"longest values", []api.Change{turns(1, full, full[1:]), turns(2, full[1:], full), makes(3, full), drops(4, full)}},
		{"values of all bytes", []api.Change{turns(1, "\x00", "\xff\n "), makes(2, "\x80")}},
		{"least and greatest key", []api.Change{makes(0, ""), of(topKey, makes(0, ""))}},
		{"objects ascend", []api.Change{makes(9, ""), of(api.Key{Obj: 1}, drops(0, ""))}},
		{"realms ascend", []api.Change{of(api.Key{Obj: 9, Off: 9}, makes(0, "")), of(api.Key{Pfs: 1}, drops(0, ""))}},
		{"400 changes", many(0, 400)},
	} {
		if got := change.Check(x.l); got != api.OK {
			t.Errorf("%s: Check = %d, want OK", x.name, got)
		}
	}
}

func TestP77CheckRejectsOthers(t *testing.T) {
	for _, x := range badLists() {
		if got := change.Check(x.l); got != x.want {
			t.Errorf("%s: Check = %d, want %d", x.name, got, x.want)
		}
	}
}

// valid is the error that one change should have.
func valid(c api.Change) api.Errno {
	large := len(c.Was) > 40 || len(c.Is) > 40
	none := !c.Had && c.Was != "" || !c.Has && c.Is != ""
	same := c.Had == c.Has && c.Was == c.Is
	switch {
	case large:
		return api.ErrLarge
	case none || same:
		return api.ErrForm
	}
	return api.OK
}

// TestP77EveryState tries all changes between two states, be they possible or not, alone and between two valid changes.
func TestP77EveryState(t *testing.T) {
	vals := []string{"", "a", "b", "\x00", full, over}
	for had := range 2 {
		for has := range 2 {
			for _, was := range vals {
				for _, is := range vals {
					c := api.Change{Key: at(5), Had: had == 1, Has: has == 1, Was: was, Is: is}
					for _, l := range [][]api.Change{{c}, {makes(4, ""), c, makes(6, "")}} {
						if got, want := change.Check(l), valid(c); got != want {
							t.Errorf("Check(%v) = %d, want %d", l, got, want)
						}
					}
				}
			}
		}
	}
}

// TestP77EveryOrder: only one order of three keys is valid.
func TestP77EveryOrder(t *testing.T) {
	keys := []api.Key{{}, {Off: 1}, {Obj: 1}, {Obj: 1, Off: 1}, {Pfs: 1}, {Pfs: 1, Obj: 1}, topKey}
	for i, a := range keys {
		for j, b := range keys {
			for k, c := range keys {
				want := api.ErrForm
				if i < j && j < k {
					want = api.OK
				}
				l := []api.Change{of(a, makes(0, "x")), of(b, drops(0, "x")), of(c, turns(0, "x", "y"))}
				if got := change.Check(l); got != want {
					t.Errorf("Check(%v) = %d, want %d", l, got, want)
				}
			}
		}
	}
}

// history is a run of keys that are made, dropped and turned in various ways. The last time is 9.
func history() []api.Elem {
	return []api.Elem{
		rec(1, 1, 3, "a"), rec(1, 3, 6, "b"), rec(1, 6, 0, "a"),
		rec(2, 2, 5, ""), rec(2, 7, 9, "c"),
		rec(3, 1, 4, "d"), rec(3, 4, 0, "d"),
		rec(5, 4, 0, ""),
		rec(7, 2, math.MaxInt32, "e"),
		{Key: api.Key{Obj: 1}, Made: 5, Gone: 6, Val: "f"},
		{Key: api.Key{Pfs: 1}, Made: 8, Val: full},
		{Key: topKey, Made: 1, Gone: 8, Val: "g"},
		{Key: topKey, Made: 8, Gone: 9, Val: "h"},
	}
}

// past is history without what happens at 2^31-1, so that it can be changed before.
func past() []api.Elem {
	return slices.DeleteFunc(history(), func(e api.Elem) bool { return e.Gone == math.MaxInt32 })
}

// visible are the values at a time by their keys.
func visible(l []api.Elem, tid int) map[api.Key]string {
	m := map[api.Key]string{}
	for _, e := range l {
		if e.Made <= tid && (e.Gone == 0 || tid < e.Gone) {
			m[e.Key] = e.Val
		}
	}
	return m
}

// differences are the changes from one set of values to another, for keys in the order in which the records of l have them.
func differences(l []api.Elem, a, b map[api.Key]string) []api.Change {
	var all []api.Change
	for i, e := range l {
		c := api.Change{Key: e.Key}
		c.Was, c.Had = a[e.Key]
		c.Is, c.Has = b[e.Key]
		if (i == 0 || l[i-1].Key != e.Key) && (c.Had != c.Has || c.Was != c.Is) {
			all = append(all, c)
		}
	}
	return all
}

func TestP78Between(t *testing.T) {
	l := history()
	obj, realm := api.Key{Obj: 1}, api.Key{Pfs: 1}
	for _, x := range []struct {
		a, b int
		want []api.Change
	}{
		{0, 1, []api.Change{makes(1, "a"), makes(3, "d"), of(topKey, makes(0, "g"))}},
		{1, 2, []api.Change{makes(2, ""), makes(7, "e")}},
		{2, 1, []api.Change{drops(2, ""), drops(7, "e")}},
		{2, 3, []api.Change{turns(1, "a", "b")}},
		{3, 2, []api.Change{turns(1, "b", "a")}},
		{3, 4, []api.Change{makes(5, "")}},
		{1, 6, []api.Change{makes(5, ""), makes(7, "e")}},
		{2, 6, []api.Change{drops(2, ""), makes(5, "")}},
		{4, 5, []api.Change{drops(2, ""), of(obj, makes(0, "f"))}},
		{4, 7, []api.Change{turns(1, "b", "a"), turns(2, "", "c")}},
		{7, 8, []api.Change{of(realm, makes(0, full)), of(topKey, turns(0, "g", "h"))}},
		{8, 7, []api.Change{of(realm, drops(0, full)), of(topKey, turns(0, "h", "g"))}},
		{9, math.MaxInt32 - 1, nil},
		{9, math.MaxInt32, []api.Change{drops(7, "e")}},
		{math.MaxInt32, math.MaxInt, nil},
		{math.MaxInt, math.MinInt, []api.Change{drops(1, "a"), drops(3, "d"), drops(5, ""), of(realm, drops(0, full))}},
	} {
		got, err := change.Between(l, x.a, x.b)
		is(t, fmt.Sprint("Between ", x.a, " and ", x.b), got, err, x.want, api.OK)
	}
}

// TestP78EveryTime compares with what is visible at all pairs of times, whether these are times or not.
func TestP78EveryTime(t *testing.T) {
	for _, l := range [][]api.Elem{nil, history(), past(), history()[:1], history()[4:5]} {
		for _, a := range times {
			for _, b := range times {
				want := differences(l, visible(l, a), visible(l, b))
				got, err := change.Between(l, a, b)
				is(t, fmt.Sprintf("Between(%v, %d, %d)", l, a, b), got, err, want, api.OK)
				if change.Check(got) != api.OK {
					t.Errorf("%v is not valid", got)
				}
			}
		}
	}
}

// TestP78FullRuns compares runs of 400 records, of as many keys or of fewer.
func TestP78FullRuns(t *testing.T) {
	for _, versions := range []int{1, 2, 5, 400} {
		var l []api.Elem
		for i := range 400 {
			made := 2 * (1 + i%versions)
			l = append(l, rec(i/versions, made, made+1+i%2, fmt.Sprint(i%3)))
		}
		for a := range 12 {
			for b := range 12 {
				got, err := change.Between(l, a, b)
				is(t, fmt.Sprintf("%d versions: Between %d and %d", versions, a, b), got, err, differences(l, visible(l, a), visible(l, b)), api.OK)
			}
		}
	}
	got, err := change.Between(slices.Repeat([]api.Elem{rec(1, 1, 0, "")}, 400), 1, 2)
	is(t, "Between of equal records", got, err, nil, api.ErrForm)
}

// TestP78BetweenReturnsTheErrorOfTheRun: whatever the times are.
func TestP78BetweenReturnsTheErrorOfTheRun(t *testing.T) {
	for _, x := range badRuns() {
		for _, a := range times {
			for _, b := range times {
				got, err := change.Between(x.l, a, b)
				is(t, fmt.Sprintf("Between(%v, %d, %d)", x.l, a, b), got, err, nil, x.want)
			}
		}
	}
}

func TestP78Back(t *testing.T) {
	for _, x := range []struct{ l, want []api.Change }{
		{nil, nil},
		{[]api.Change{}, nil},
		{[]api.Change{makes(1, "a")}, []api.Change{drops(1, "a")}},
		{[]api.Change{drops(1, "a")}, []api.Change{makes(1, "a")}},
		{[]api.Change{makes(1, "")}, []api.Change{drops(1, "")}},
		{[]api.Change{drops(1, "")}, []api.Change{makes(1, "")}},
		{[]api.Change{turns(1, "a", "b")}, []api.Change{turns(1, "b", "a")}},
		{[]api.Change{turns(1, "", full)}, []api.Change{turns(1, full, "")}},
		{
			[]api.Change{makes(1, "a"), drops(2, "b"), turns(4, "c", ""), of(topKey, makes(0, "d"))},
			[]api.Change{drops(1, "a"), makes(2, "b"), turns(4, "", "c"), of(topKey, drops(0, "d"))},
		},
	} {
		got, err := change.Back(x.l)
		is(t, fmt.Sprintf("Back(%v)", x.l), got, err, x.want, api.OK)
		again, err := change.Back(got)
		is(t, fmt.Sprintf("Back(%v)", got), again, err, x.l, api.OK)
	}
	got, err := change.Back(many(0, 400))
	if len(got) != 400 || err != api.OK || got[399] != drops(399, "x") {
		t.Errorf("Back of 400 changes: %v, %d", got, err)
	}
}

// TestP78BackIsBetweenTheOtherWay compares with the differences from the second time to the first one.
func TestP78BackIsBetweenTheOtherWay(t *testing.T) {
	for _, a := range times {
		for _, b := range times {
			there, _ := change.Between(history(), a, b)
			want, _ := change.Between(history(), b, a)
			got, err := change.Back(there)
			is(t, fmt.Sprintf("Back(%v)", there), got, err, want, api.OK)
		}
	}
}

func TestP77P78BackReturnsTheErrorOfCheck(t *testing.T) {
	for _, x := range badLists() {
		got, err := change.Back(x.l)
		is(t, x.name+": Back", got, err, nil, x.want)
	}
}
