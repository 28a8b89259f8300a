package file_test

import (
	"fmt"
	"math/rand/v2"
	"testing"

	"annalist/api"
	"annalist/file"
)

// TestP61P62Stories writes to and patches three objects at random, several times at one time,
// and compares what is read at every time with copies made then.
func TestP61P62Stories(t *testing.T) {
	for seed := range uint64(30) {
		r := rand.New(rand.NewPCG(seed, 1))
		var l []api.Elem
		now := [3]string{}
		past := [][3]string{now}
		for len(past) < 40 {
			if r.IntN(3) > 0 {
				past = append(past, now)
			}
			tid := len(past)
			i := r.IntN(3)
			m, next, err := change(r, l, i, now[i], tid)
			if err == api.ErrFull && len(l) > 300 {
				break
			}
			if err != api.OK {
				t.Fatalf("seed %d: a change at %d returned %d", seed, tid, err)
			}
			l, now[i] = m, next
			same(t, fmt.Sprintf("seed %d", seed), l, append(past, now))
		}
	}
}

// change makes one change of the object with number i and returns the run and the contents after it.
func change(r *rand.Rand, l []api.Elem, i int, old string, tid int) ([]api.Elem, string, api.Errno) {
	at := r.IntN(len(old) + 1)
	s := text(1 + r.IntN(60))[r.IntN(2):]
	if len(s) > 0 && r.IntN(4) > 0 && at+len(s) <= 320 {
		next := old[:at] + s
		if len(next) < len(old) {
			next += old[len(next):]
		}
		m, err := file.Patch(l, pfs, obj+i, at, s, tid)
		return m, next, err
	}
	next := old[:at] + s
	if len(next) > 320 {
		next = ""
	}
	m, err := file.Set(l, pfs, obj+i, next, tid)
	return m, next, err
}

// same fails the test unless the contents of the objects at each time are those that are listed for it, from 1 on.
func same(t *testing.T, story string, l []api.Elem, past [][3]string) {
	t.Helper()
	for n, all := range past {
		for i, want := range all {
			if got, err := file.Get(l, pfs, obj+i, n); got != want || err != api.OK {
				t.Fatalf("%s: Get of object %d at %d: %q, %d, want %q", story, i, n, got, err, want)
			}
		}
	}
}
