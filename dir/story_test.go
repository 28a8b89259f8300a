package dir_test

import (
	"fmt"
	"maps"
	"math/rand/v2"
	"slices"
	"testing"

	"annalist/api"
	"annalist/dir"
)

// TestP66P67Stories adds and drops names at random, several times at one time,
// and compares what is found and listed at every time with copies made then.
func TestP66P67Stories(t *testing.T) {
	names := append(alike(9), "b", ":", "twelve-bytes")
	for seed := range uint64(20) {
		r := rand.New(rand.NewPCG(seed, 1))
		var l []api.Elem
		now := map[string]int{}
		past := []map[string]int{{}}
		for len(past) < 40 {
			if r.IntN(3) > 0 {
				past = append(past, maps.Clone(now))
			}
			tid := len(past)
			name := names[r.IntN(len(names))]
			of, there := now[name]
			m, err := l, api.OK
			want := api.OK
			if r.IntN(3) > 0 {
				of = r.IntN(1<<20 + 1)
				m, err = dir.Add(l, pfs, obj, name, of, tid)
				want = addError(now, name, there)
			} else {
				m, err = dir.Drop(l, pfs, obj, name, tid)
				if !there {
					want = api.ErrNone
				}
			}
			if err != want {
				t.Fatalf("seed %d: a change of %q at %d returned %d, want %d", seed, name, tid, err, want)
			}
			if err != api.OK {
				continue
			}
			l = m
			if there {
				delete(now, name)
			} else {
				now[name] = of
			}
			same(t, fmt.Sprintf("seed %d", seed), l, names, append(past, now))
		}
	}
}

// addError is the error of Add in a directory with these names: of those with the slots of a there can be eight.
func addError(now map[string]int, name string, there bool) api.Errno {
	if there {
		return api.ErrThere
	}
	n := 0
	for other := range now {
		if slot(other, 0) == slot(name, 0) {
			n++
		}
	}
	if n == 8 {
		return api.ErrFull
	}
	return api.OK
}

// same fails the test unless the names at each time are those that are listed for it.
func same(t *testing.T, story string, l []api.Elem, names []string, past []map[string]int) {
	t.Helper()
	for n, all := range past {
		got, err := dir.List(l, pfs, obj, n)
		if want := slices.Sorted(maps.Keys(all)); !slices.Equal(got, want) || err != api.OK {
			t.Fatalf("%s: List at %d: %q, %d, want %q", story, n, got, err, want)
		}
		for _, name := range names {
			want := api.OK
			of, there := all[name]
			if !there {
				want = api.ErrNone
			}
			if got, err := dir.Find(l, pfs, obj, name, n); got != of || err != want {
				t.Fatalf("%s: Find %q at %d: %d, %d, want %d, %d", story, name, n, got, err, of, want)
			}
		}
	}
}
