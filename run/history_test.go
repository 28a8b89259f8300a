package run_test

import (
	"maps"
	"slices"
	"strconv"
	"testing"

	"annalist/api"
	"annalist/run"
)

// past is what was visible at each time: values by offset.
type past []map[int]string

// step is one of the operations from which sequences are made: two keys are written, both are deleted, time passes.
type step int

const (
	putOne step = iota
	putTwo
	cutOne
	cutTwo
	wait
	steps
)

// TestP10P11NothingThatWasVisibleChanges performs every sequence of six operations
// and compares what is visible at every time with a copy that was made at that time.
func TestP10P11NothingThatWasVisibleChanges(t *testing.T) {
	const length = 6
	sequences := 1
	for range length {
		sequences *= int(steps)
	}
	for n := range sequences {
		var ops []step
		for rest := n; len(ops) < length; rest /= int(steps) {
			ops = append(ops, step(rest%int(steps)))
		}
		if !replay(t, ops) {
			t.Fatalf("sequence %v", ops)
		}
	}
}

// replay performs ops on a run and on a past, and reports whether both agree after each of them.
func replay(t *testing.T, ops []step) bool {
	var l []api.Elem
	seen := past{{}, {}}
	for i, op := range ops {
		now := len(seen) - 1
		off := 1
		if op == putTwo || op == cutTwo {
			off = 2
		}
		var err, want api.Errno
		m := l
		switch op {
		case putOne, putTwo:
			val := strconv.Itoa(i)
			m, err = run.Put(l, at(off), val, now)
			seen[now][off] = val
		case cutOne, cutTwo:
			if _, there := seen[now][off]; !there {
				want = api.ErrNone
			}
			m, err = run.Cut(l, at(off), now)
			delete(seen[now], off)
		case wait:
			seen = append(seen, maps.Clone(seen[now]))
		}
		if err != want {
			t.Errorf("operation %d returned %d, want %d", i, err, want)
			return false
		}
		if err == api.OK {
			l = m
		}
		if !agrees(t, l, seen) {
			return false
		}
	}
	return true
}

// agrees reports whether l is a run in which at each time is visible what was seen then.
func agrees(t *testing.T, l []api.Elem, seen past) bool {
	if err := run.Check(l); err != api.OK {
		t.Errorf("Check(%v) = %d", l, err)
		return false
	}
	for now, visible := range seen {
		found, _ := run.Range(l, at(0), at(9), now)
		got := map[int]string{}
		for _, e := range found {
			got[e.Key.Off] = e.Val
		}
		if len(found) != len(got) || !maps.Equal(got, visible) {
			t.Errorf("at %d %v is visible in %v, want %v", now, found, l, visible)
			return false
		}
		for off := range 4 {
			e, err := run.At(l, at(off), now)
			val, there := visible[off]
			if (err == api.OK) != there || e.Val != val {
				t.Errorf("at %d offset %d is %v, %d in %v, want %v", now, off, e, err, l, visible)
				return false
			}
		}
	}
	return true
}

// spare fills the capacity beyond a slice, which nobody may change.
var spare = rec(77, 77, 78, "spare")

// roomy copies l to a slice with spare capacity.
func roomy(l []api.Elem) []api.Elem {
	r := slices.Clone(l)
	for range 3 {
		r = append(r, spare)
	}
	return r[:len(l)]
}

// untouched reports whether r is still as roomy made it.
func untouched(r, l []api.Elem) bool {
	all := r[:len(l)+3]
	return slices.Equal(all[:len(l)], l) && all[len(l)] == spare && all[len(l)+1] == spare && all[len(l)+2] == spare
}

func TestP2ArgumentsAndResultsShareNothing(t *testing.T) {
	calls := []struct {
		name string
		call func(l []api.Elem) ([]api.Elem, api.Errno)
	}{
		{"Check", func(l []api.Elem) ([]api.Elem, api.Errno) { return nil, run.Check(l) }},
		{"Last", func(l []api.Elem) ([]api.Elem, api.Errno) { _, err := run.Last(l); return nil, err }},
		{"At", func(l []api.Elem) ([]api.Elem, api.Errno) { _, err := run.At(l, at(2), 4); return nil, err }},
		{"Range", func(l []api.Elem) ([]api.Elem, api.Errno) { return run.Range(l, at(0), topKey, 4) }},
		{"Range of none", func(l []api.Elem) ([]api.Elem, api.Errno) { return run.Range(l, at(6), at(5), 4) }},
		{"Put of a new key", func(l []api.Elem) ([]api.Elem, api.Errno) { return run.Put(l, topKey, "x", 9) }},
		{"Put of a new version", func(l []api.Elem) ([]api.Elem, api.Errno) { return run.Put(l, at(2), "x", 9) }},
		{"Put at the same time", func(l []api.Elem) ([]api.Elem, api.Errno) { return run.Put(l, at(9), "x", 9) }},
		{"Put too early", func(l []api.Elem) ([]api.Elem, api.Errno) { return run.Put(l, at(2), "x", 8) }},
		{"Cut", func(l []api.Elem) ([]api.Elem, api.Errno) { return run.Cut(l, at(2), 9) }},
		{"Cut at the same time", func(l []api.Elem) ([]api.Elem, api.Errno) { return run.Cut(l, at(9), 9) }},
		{"Cut of none", func(l []api.Elem) ([]api.Elem, api.Errno) { return run.Cut(l, at(5), 9) }},
	}
	made := append(history()[:4], rec(9, 9, 0, "f"))
	for _, l := range [][]api.Elem{{}, history(), made, unordered} {
		for _, x := range calls {
			arg := roomy(l)
			got, _ := x.call(arg)
			if !untouched(arg, l) {
				t.Errorf("%s of %v changed it to %v", x.name, l, arg[:cap(arg)])
			}
			for i := range got[:cap(got)] {
				got[:cap(got)][i] = rec(66, 66, 67, "overwritten")
			}
			if !untouched(arg, l) {
				t.Errorf("the result of %s of %v shares memory with it", x.name, l)
			}
		}
	}
}
