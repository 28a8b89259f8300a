package change_test

import (
	"fmt"
	"maps"
	"math"
	"math/rand/v2"
	"slices"
	"testing"

	"annalist/api"
	"annalist/change"
	"annalist/run"
)

// gives fails the test unless a call returned this run, or this error and no run.
func gives(t *testing.T, call string, got []api.Elem, err api.Errno, want []api.Elem, wantErr api.Errno) {
	t.Helper()
	if err != wantErr || !slices.Equal(got, want) {
		t.Fatalf("%s: %v, %d, want %v, %d", call, got, err, want, wantErr)
	}
}

func TestP80Do(t *testing.T) {
	l := []api.Elem{rec(1, 1, 0, "a"), rec(2, 2, 4, "b"), rec(3, 4, 0, "c")}
	for _, x := range []struct {
		name string
		l    []api.Elem
		c    []api.Change
		t    int
		want []api.Elem
	}{
		{"nothing", nil, nil, 1, nil},
		{"nothing in a run", l, nil, 4, l},
		{"nothing in a run, empty", l, []api.Change{}, 9, l},
		{"made in no records", nil, []api.Change{makes(1, "x")}, 1, []api.Elem{rec(1, 1, 0, "x")}},
		{"made at the last time", nil, []api.Change{of(topKey, makes(0, full))}, math.MaxInt32, []api.Elem{{Key: topKey, Made: math.MaxInt32, Val: full}}},
		{"made", l, []api.Change{makes(0, "x")}, 5, []api.Elem{rec(0, 5, 0, "x"), l[0], l[1], l[2]}},
		{"made, empty", l, []api.Change{makes(9, "")}, 5, []api.Elem{l[0], l[1], l[2], rec(9, 5, 0, "")}},
		{"made again", l, []api.Change{makes(2, "b")}, 4, []api.Elem{l[0], l[1], rec(2, 4, 0, "b"), l[2]}},
		{"turned", l, []api.Change{turns(1, "a", "x")}, 4, []api.Elem{rec(1, 1, 4, "a"), rec(1, 4, 0, "x"), l[1], l[2]}},
		{"turned to empty", l, []api.Change{turns(1, "a", "")}, 7, []api.Elem{rec(1, 1, 7, "a"), rec(1, 7, 0, ""), l[1], l[2]}},
		{"turned when it was made", l, []api.Change{turns(3, "c", "x")}, 4, []api.Elem{l[0], l[1], rec(3, 4, 0, "x")}},
		{"dropped", l, []api.Change{drops(1, "a")}, 4, []api.Elem{rec(1, 1, 4, "a"), l[1], l[2]}},
		{"dropped at the last time", l, []api.Change{drops(1, "a")}, math.MaxInt32, []api.Elem{rec(1, 1, math.MaxInt32, "a"), l[1], l[2]}},
		{"dropped when it was made", l, []api.Change{drops(3, "c")}, 4, l[:2]},
		{"several", l, []api.Change{makes(0, ""), drops(1, "a"), makes(2, "x"), turns(3, "c", "b")}, 6,
			[]api.Elem{rec(0, 6, 0, ""), rec(1, 1, 6, "a"), l[1], rec(2, 6, 0, "x"), rec(3, 4, 6, "c"), rec(3, 6, 0, "b")}},
	} {
		got, err := change.Do(x.l, x.c, x.t)
		gives(t, x.name+": Do", got, err, x.want, api.OK)
	}
}

// TestP80EveryChange does each change of a key in each state at each time.
func TestP80EveryChange(t *testing.T) {
	for _, l := range [][]api.Elem{
		{}, {rec(5, 2, 0, "")}, {rec(5, 2, 0, "a")}, {rec(5, 2, 4, "a")}, {rec(5, 2, 4, "a"), rec(5, 4, 0, "")}, {rec(5, 1, 2, ""), rec(5, 4, 0, "b")},
		{rec(4, 1, 0, "a"), rec(6, 4, 0, "a")}, {rec(4, 1, 4, "b"), rec(5, 3, 0, "b"), rec(6, 2, 0, "a")},
		{rec(5, 4, math.MaxInt32, "a")}, {rec(5, 1, math.MaxInt32, "a"), rec(5, math.MaxInt32, 0, "b")}, {rec(5, math.MaxInt32, 0, "a")},
	} {
		for _, c := range flips(5, "", "a", "b") {
			for _, tid := range times {
				want, wantErr := done(l, []api.Change{c}, tid)
				got, err := change.Do(l, []api.Change{c}, tid)
				gives(t, fmt.Sprintf("Do(%v, %v, %d)", l, c, tid), got, err, want, wantErr)
			}
		}
	}
}

// done is what Do should return for a run and a list of changes that are valid.
func done(l []api.Elem, c []api.Change, tid int) ([]api.Elem, api.Errno) {
	last := 1
	now := map[api.Key]string{}
	for _, e := range l {
		last = max(last, e.Made, e.Gone)
		if e.Gone == 0 {
			now[e.Key] = e.Val
		}
	}
	if tid < last || tid > math.MaxInt32 {
		return nil, api.ErrTid
	}
	for _, x := range c {
		if val, there := now[x.Key]; there != x.Had || val != x.Was {
			return nil, api.ErrArg
		}
	}
	for _, x := range c {
		err := api.OK
		if x.Has {
			l, err = run.Put(l, x.Key, x.Is, tid)
		} else {
			l, err = run.Cut(l, x.Key, tid)
		}
		if err != api.OK {
			return nil, err
		}
	}
	return l, api.OK
}

// TestP80EveryPlace: each changed key must be in its state, the last one as well as the first one.
func TestP80EveryPlace(t *testing.T) {
	for n := 1; n < 12; n++ {
		var l []api.Elem
		var c []api.Change
		for i := range n {
			l = append(l, rec(i, 1, 0, "a"))
			c = append(c, turns(i, "a", "b"))
		}
		for i := range n {
			for _, x := range []api.Change{makes(i, "b"), drops(i, "b"), drops(i, ""), turns(i, "b", "a"), turns(i, "", "a")} {
				wrong := slices.Clone(c)
				wrong[i] = x
				got, err := change.Do(l, wrong, 2)
				gives(t, fmt.Sprintf("Do(%v, %v)", l, wrong), got, err, nil, api.ErrArg)
			}
		}
		got, err := change.Do(l, append(c, drops(n, "")), 2)
		gives(t, "Do of a key without records", got, err, nil, api.ErrArg)
	}
}

// TestP80LastTime: a record that is deleted at 2^31-1 is not live then, but nothing can be written before.
func TestP80LastTime(t *testing.T) {
	l := []api.Elem{rec(1, 3, math.MaxInt32, "a"), rec(2, 3, 0, "b")}
	for _, tid := range times {
		for _, c := range [][]api.Change{{drops(1, "a")}, {turns(1, "a", "b")}, {makes(1, "b")}, {drops(2, "b")}, {makes(2, "")}, nil} {
			if tid != math.MaxInt32 {
				got, err := change.Do(l, c, tid)
				gives(t, fmt.Sprintf("Do(%v) at %d", c, tid), got, err, nil, api.ErrTid)
			}
		}
	}
	for _, c := range []api.Change{drops(1, "a"), turns(1, "a", "b"), makes(2, "")} {
		got, err := change.Do(l, []api.Change{c}, math.MaxInt32)
		gives(t, fmt.Sprintf("Do(%v)", c), got, err, nil, api.ErrArg)
	}
	got, err := change.Do(l, []api.Change{makes(1, "c"), turns(2, "b", "")}, math.MaxInt32)
	want := []api.Elem{l[0], rec(1, math.MaxInt32, 0, "c"), rec(2, 3, math.MaxInt32, "b"), rec(2, math.MaxInt32, 0, "")}
	gives(t, "Do at the last time", got, err, want, api.OK)
	m, err := change.Do(got, []api.Change{drops(1, "c"), turns(2, "", "d")}, math.MaxInt32)
	want = []api.Elem{l[0], rec(2, 3, math.MaxInt32, "b"), rec(2, math.MaxInt32, 0, "d")}
	gives(t, "Do at the last time again", m, err, want, api.OK)
}

// filled is a run of n records of keys from 100 on, made at 5, after those of l.
func filled(n int, l ...api.Elem) []api.Elem {
	for i := len(l); i < n; i++ {
		l = append(l, rec(100+i, 5, 0, "x"))
	}
	return l
}

// TestP80FullRuns: there is no room for more than 400 records. What is removed before leaves its room, what is removed later does not.
func TestP80FullRuns(t *testing.T) {
	l := filled(400, rec(1, 1, 0, "a"), rec(2, 5, 0, "b"))
	for _, x := range []struct {
		name string
		l    []api.Elem
		c    []api.Change
		t    int
		err  api.Errno
	}{
		{"a new key", l, []api.Change{makes(9, "")}, 5, api.ErrFull},
		{"a new version", l, []api.Change{turns(1, "a", "x")}, 5, api.ErrFull},
		{"a version again", filled(400, rec(1, 1, 5, "a")), []api.Change{makes(1, "x")}, 5, api.ErrFull},
		{"a new value", l, []api.Change{turns(2, "b", "x")}, 5, api.OK},
		{"a new version later", l, []api.Change{turns(2, "b", "x")}, 6, api.ErrFull},
		{"a removal", l, []api.Change{drops(2, "b")}, 5, api.OK},
		{"a deletion", l, []api.Change{drops(1, "a")}, 5, api.OK},
		{"nothing", l, nil, 5, api.OK},
		{"a removal, then a new key", l, []api.Change{drops(2, "b"), makes(9, "")}, 5, api.OK},
		{"a deletion, then a new key", l, []api.Change{drops(1, "a"), makes(9, "")}, 5, api.ErrFull},
		{"a new key, then a removal", l, []api.Change{makes(0, ""), drops(2, "b")}, 5, api.ErrFull},
		{"a removal, then two new keys", l, []api.Change{drops(2, "b"), makes(9, ""), makes(10, "")}, 5, api.ErrFull},
		{"the last record", filled(399), []api.Change{makes(9, "")}, 5, api.OK},
		{"one more than the last record", filled(399), []api.Change{makes(9, ""), makes(10, "")}, 5, api.ErrFull},
		{"400 records at once", nil, many(0, 400), 1, api.OK},
		{"200 versions at once", filled(200), turned(200), 6, api.OK},
		{"201 versions at once", filled(201), turned(201), 6, api.ErrFull},
		{"400 values at once", filled(400), turned(400), 5, api.OK},

		{"time before room", l, []api.Change{makes(9, "")}, 4, api.ErrTid},
		{"state before room", l, []api.Change{makes(0, ""), drops(1, "b")}, 5, api.ErrArg},
	} {
		want, wantErr := done(x.l, x.c, x.t)
		if wantErr != x.err {
			t.Fatalf("%s: the test expects both %d and %d", x.name, wantErr, x.err)
		}
		got, err := change.Do(x.l, x.c, x.t)
		gives(t, x.name+": Do", got, err, want, x.err)
	}
}

// turned turns the n records of filled.
func turned(n int) []api.Change {
	var c []api.Change
	for i := range n {
		c = append(c, turns(100+i, "x", "y"))
	}
	return c
}

// TestP77P80ReturnsTheFirstError: run, changes, time, state.
func TestP77P80ReturnsTheFirstError(t *testing.T) {
	lists := append(badLists(), badList{"none", nil, api.OK}, badList{"wrong state", []api.Change{drops(50, "z")}, api.OK})
	for _, tid := range times {
		for _, y := range lists {
			for _, x := range badRuns() {
				got, err := change.Do(x.l, y.l, tid)
				gives(t, fmt.Sprintf("Do(%v, %s)", x.l, y.name), got, err, nil, x.want)
			}
			for _, l := range [][]api.Elem{nil, past(), filled(400)} {
				if y.want != api.OK {
					got, err := change.Do(l, y.l, tid)
					gives(t, "Do of "+y.name, got, err, nil, y.want)
				}
			}
		}
	}
	for _, tid := range []int{math.MinInt, -1, 0, 1, 8, 1 << 31, math.MaxInt} {
		for _, c := range [][]api.Change{nil, {makes(50, "")}, {drops(50, "z")}, {drops(1, "a")}} {
			got, err := change.Do(past(), c, tid)
			gives(t, fmt.Sprintf("Do(%v) at %d", c, tid), got, err, nil, api.ErrTid)
		}
	}
	for _, tid := range []int{math.MinInt, -1, 0, 1 << 31, math.MaxInt} {
		for _, c := range [][]api.Change{nil, {makes(50, "")}, {drops(50, "z")}} {
			got, err := change.Do(nil, c, tid)
			gives(t, fmt.Sprintf("Do(%v) at %d, without records", c, tid), got, err, nil, api.ErrTid)
		}
	}
}

// TestP78P80Stories changes a run at random, several times at one time, and compares it with run.Put and run.Cut.
// What was visible before stays so, and Between of any two times leads from what was visible at one to what was at the other.
func TestP78P80Stories(t *testing.T) {
	met := map[api.Errno]int{}
	for seed := range uint64(20) {
		r := rand.New(rand.NewPCG(seed, 1))
		l, tid := []api.Elem(nil), 1
		seen := []map[api.Key]string{{}}
		for len(l) < 380 && len(seen) < 60 {
			for later := r.IntN(3); later > 0; later-- {
				seen = append(seen, visible(l, tid))
				tid++
			}
			c := someChanges(r, visible(l, tid))
			want, wantErr := done(l, c, tid)
			got, err := change.Do(l, c, tid)
			gives(t, fmt.Sprintf("seed %d: Do(%v, %v, %d)", seed, l, c, tid), got, err, want, wantErr)
			met[err]++
			if err == api.OK {
				l = got
			}
		}
		for a, before := range seen {
			for b, after := range seen {
				got, err := change.Between(l, a, b)
				is(t, fmt.Sprintf("seed %d: Between %d and %d", seed, a, b), got, err, differences(l, before, after), api.OK)
			}
		}
	}
	if met[api.OK] < 200 || met[api.ErrArg] < 50 {
		t.Errorf("the changes are too similar: %v", met)
	}
}

// someChanges are changes of some of twelve keys. As a rule they fit what is there now.
func someChanges(r *rand.Rand, now map[api.Key]string) []api.Change {
	var c []api.Change
	for off := range 12 {
		x := api.Change{Key: at(off)}
		x.Was, x.Had = now[x.Key]
		if r.IntN(60) == 0 {
			x.Had, x.Was = true, "other"
		}
		if x.Has = r.IntN(3) > 0; x.Has {
			x.Is = fmt.Sprint(r.IntN(3))
		}
		if r.IntN(3) == 0 && change.Check([]api.Change{x}) == api.OK {
			c = append(c, x)
		}
	}
	return c
}

// TestP78P79P80ThereAndBack does the changes between two times of one run in a copy that was made at the first of them,
// and then their reversal.
func TestP78P79P80ThereAndBack(t *testing.T) {
	l := past()
	for a := range 11 {
		for b := range 11 {
			copied := asOf(l, a)
			c, _ := change.Between(l, a, b)
			there, err := change.Do(copied, c, 20)
			if err != api.OK || !maps.Equal(visible(there, 20), visible(l, b)) || !maps.Equal(visible(there, 19), visible(l, a)) {
				t.Fatalf("Do(%v, %v) = %v, %d", copied, c, there, err)
			}
			reverse, _ := change.Back(c)
			back, err := change.Do(there, reverse, 30)
			if err != api.OK || !maps.Equal(visible(back, 30), visible(l, a)) || !maps.Equal(visible(back, 29), visible(l, b)) {
				t.Fatalf("Do(%v, %v) = %v, %d", there, reverse, back, err)
			}
			same, err := change.Do(there, reverse, 20)
			if err != api.OK || !maps.Equal(visible(same, 20), visible(l, a)) {
				t.Fatalf("Do(%v, %v) at the same time = %v, %d", there, reverse, same, err)
			}
		}
	}
}

// asOf is what a run was at a time: without what was made later, and with what was deleted later.
func asOf(l []api.Elem, tid int) []api.Elem {
	var m []api.Elem
	for _, e := range l {
		if e.Gone > tid {
			e.Gone = 0
		}
		if e.Made <= tid {
			m = append(m, e)
		}
	}
	return m
}

// overwrite fills a slice and its spare capacity.
func overwrite[E any](l []E, mark E) {
	l = l[:cap(l)]
	for i := range l {
		l[i] = mark
	}
}

// unshared calls a function twice and overwrites what it returns, with the spare capacity.
// It fails the test if that changes the other result, or if same reports that an argument has changed.
func unshared[E comparable](t *testing.T, name string, mark E, same func() bool, call func() ([]E, api.Errno)) {
	t.Helper()
	got, err := call()
	if err != api.OK {
		t.Fatalf("%s returned %d", name, err)
	}
	want := slices.Clone(got)
	overwrite(got, mark)
	again, _ := call()
	if !slices.Equal(again, want) {
		t.Errorf("two results of %s share memory, or it depends on more than its arguments", name)
	}
	overwrite(again, mark)
	if !same() {
		t.Errorf("%s modified its argument, or shares memory with it", name)
	}
}

// spared is a copy of l with spare capacity, and a function that reports whether both are unchanged.
func spared[E comparable](l []E, spare E) ([]E, func() bool) {
	arg := append(slices.Clone(l), spare, spare)
	before := slices.Clone(arg)
	return arg[:len(l)], func() bool { return slices.Equal(arg, before) }
}

func TestP2ArgumentsAreNotModifiedNorShared(t *testing.T) {
	changeMark, elemMark := makes(99, "overwritten"), rec(99, 9, 9, "overwritten")
	lists := [][]api.Change{nil, {makes(0, ""), turns(1, "a", "x"), drops(3, "d")}, {turns(1, "a", "x"), makes(2, "y")}, many(20, 200)}
	for i, c := range lists {
		c, sameC := spared(c, drops(98, "spare"))
		l, sameL := spared(past(), rec(98, 8, 8, "spare"))
		back, _ := change.Back(c)
		back, sameBack := spared(back, drops(98, "spare"))
		same := func() bool { return sameC() && sameL() && sameBack() }
		name := func(call string) string { return fmt.Sprintf("%s of list %d", call, i) }
		unshared(t, name("Between"), changeMark, same, func() ([]api.Change, api.Errno) { return change.Between(l, 2+i, 8) })
		unshared(t, name("Back"), changeMark, same, func() ([]api.Change, api.Errno) { return change.Back(c) })
		unshared(t, name("Then"), changeMark, same, func() ([]api.Change, api.Errno) { return change.Then(c, back) })
		unshared(t, name("Then with nothing"), changeMark, same, func() ([]api.Change, api.Errno) { return change.Then(c, back[:0]) })
		unshared(t, name("Then after nothing"), changeMark, same, func() ([]api.Change, api.Errno) { return change.Then(c[:0], back) })
		unshared(t, name("Then with others"), changeMark, same, func() ([]api.Change, api.Errno) { return change.Then(c, many(500, 3)) })
		unshared(t, name("Do"), elemMark, same, func() ([]api.Elem, api.Errno) { return change.Do(l, c, 9) })
		if change.Check(c) != api.OK || !same() {
			t.Error(name("Check"), "modified its argument")
		}
	}
}
