package store_test

import (
	"fmt"
	"math"
	"math/rand/v2"
	"slices"
	"testing"

	"annalist/api"
	"annalist/disk"
	"annalist/store"
	"annalist/undo"
)

// head returns seq and the string of the head of a disk.
func head(t *testing.T, d api.Disk) (int, string) {
	t.Helper()
	seq, text, err := undo.Seq(d)
	if err != api.OK {
		t.Fatalf("Seq: %d", err)
	}
	return seq, text
}

// checkSteps fails the test unless all are the disks that undo.Steps returns for a disk and the pages that were written.
func checkSteps(t *testing.T, d api.Disk, all []api.Disk) {
	t.Helper()
	n := (len(all) - 5) / 2
	if n < 0 || n > 100 || len(all) != 2*n+5 {
		t.Fatalf("Flush returns %d disks", len(all))
	}
	last := all[len(all)-1]
	before, _ := head(t, d)
	seq, text := head(t, last)
	want, err := undo.Steps(d, text, all[2*n+1].Writes)
	if seq != before+1 || err != api.OK || !slices.EqualFunc(all, want, same) {
		t.Fatalf("Flush of %d pages, seq %d after %d, does not return the disks of Steps: %d", n, seq, before, err)
	}
}

// losses returns lists of which of n writes a crash keeps: all lists if there are few writes, and otherwise some.
func losses(r *rand.Rand, n int) [][]bool {
	var all [][]bool
	if n <= 6 {
		for set := range 1 << n {
			all = append(all, kept(n, func(i int) bool { return set>>i&1 == 1 }))
		}
		return all
	}
	all = append(all, nil, kept(n, func(i int) bool { return true }), kept(n, func(i int) bool { return i == n-1 }), kept(n, func(i int) bool { return i > 0 }))
	for range 4 {
		all = append(all, kept(n, func(i int) bool { return r.IntN(2) == 0 }))
	}
	return all
}

// kept lists for n writes which a crash keeps.
func kept(n int, f func(i int) bool) []bool {
	l := make([]bool, n)
	for i := range l {
		l[i] = f(i)
	}
	return l
}

// atomic fails the test unless each of the disks of a Flush, after whatever crash, is opened with the records from before
// or, once its head is written, with those after.
func atomic(t *testing.T, r *rand.Rand, all []api.Disk, before, after []api.Elem) {
	t.Helper()
	last := all[len(all)-1]
	for i, d := range all {
		for _, set := range losses(r, len(d.Writes)) {
			crashed, _ := disk.Crash(d, set)
			want := before
			if crashed.Pages[0] == last.Pages[0] {
				want = after
			}
			if i == len(all)-1 && crashed.Pages[0] != last.Pages[0] || i < len(all)-2 && crashed.Pages[0] == last.Pages[0] {
				t.Fatalf("disk %d of %d: the head is not written at the last step", i, len(all))
			}
			name := fmt.Sprintf("disk %d of %d, %v kept", i, len(all), set)
			s, err := store.Open(crashed)
			if err != api.OK || !slices.Equal(s.Run(), want) {
				t.Fatalf("%s: Open: %d, or not %d records", name, err, len(want))
			}
			reopened(t, name+", recovered", s.Disk(), want)
		}
		if s, err := store.Open(d); err != api.OK || !slices.Equal(s.Run(), before) && !slices.Equal(s.Run(), after) {
			t.Fatalf("disk %d of %d, nothing lost: Open: %d", i, len(all), err)
		}
	}
}

func TestP50FlushIsAtomic(t *testing.T) {
	for seed := range 3 {
		r := rand.New(rand.NewPCG(50, uint64(seed)))
		b := start()
		for _, n := range []int{0, 1, 1, 10, 60, 2, 0, 1, 200, 5, 30} {
			before, d := b.l, b.s.Disk()
			b.change(t, r, n)
			if r.IntN(4) == 0 {
				b.prune(t, []int{b.last()})
			}
			all := b.flush(t)
			checkSteps(t, d, all)
			atomic(t, r, all, before, b.l)
		}
	}
}

// TestP50LargeGroups writes 400 records of the greatest size, then removes them.
func TestP50LargeGroups(t *testing.T) {
	r := rand.New(rand.NewPCG(50, 400))
	order := orders(400)["mixed"]
	b := filled(t, order, full)
	d, l := b.s.Disk(), b.l
	all := b.flush(t)
	checkSteps(t, d, all)
	atomic(t, r, all, nil, l)
	d = b.s.Disk()
	for _, i := range order {
		b.cut(t, key(i), 1)
	}
	all = b.flush(t)
	checkSteps(t, d, all)
	if atomic(t, r, all, l, nil); len(b.l) != 0 {
		t.Fatalf("%d records are left", len(b.l))
	}
}

// TestP50AfterCrashes goes on with the store that is opened after a crash in the middle of each Flush.
func TestP50AfterCrashes(t *testing.T) {
	r := rand.New(rand.NewPCG(50, 50))
	b := start()
	written := 0
	for round := range 150 {
		before, d := b.l, b.s.Disk()
		b.change(t, r, 1+r.IntN(30))
		all := b.flush(t)
		checkSteps(t, d, all)
		if round%15 == 14 {
			atomic(t, r, all, before, b.l)
		}
		crashed := all[r.IntN(len(all))]
		crashed, _ = disk.Crash(crashed, kept(len(crashed.Writes), func(int) bool { return r.IntN(2) == 0 }))
		want := before
		if crashed.Pages[0] == all[len(all)-1].Pages[0] {
			want = b.l
			written++
		}
		s, err := store.Open(crashed)
		if err != api.OK {
			t.Fatalf("round %d: Open: %d", round, err)
		}
		b = reopened(t, fmt.Sprint("round ", round), s.Disk(), want)
		b.s = s
	}
	if written < 10 || written > 140 {
		t.Errorf("%d of 150 groups were written, so the sample shows little", written)
	}
}

// TestP50NothingToWrite: a Flush without changes is one nevertheless.
func TestP50NothingToWrite(t *testing.T) {
	for n, b := range []*both{start(), filled(t, orders(20)["up"], "v")} {
		if n > 0 {
			b.flush(t)
		}
		for i := range 4 {
			d := b.s.Disk()
			if seq, _ := head(t, d); seq != n+i {
				t.Fatalf("seq %d after %d groups", seq, n+i)
			}
			all := b.flush(t)
			checkSteps(t, d, all)
			atomic(t, rand.New(rand.NewPCG(50, 0)), all, b.l, b.l)
		}
	}
}

// TestP50TheLastGroup: after the last number a Flush is refused, and changes nothing.
func TestP50TheLastGroup(t *testing.T) {
	b := filled(t, orders(30)["mixed"], "v")
	b.flush(t)
	_, text := head(t, b.s.Disk())
	late, err := undo.Head(math.MaxInt32-1, text)
	if err != api.OK {
		t.Fatal(err)
	}
	b = reopened(t, "the last seq but one", set(b.s.Disk(), 0, late), b.l)
	b.put(t, key(3), "last", 2)
	before := b.s.Disk()
	all := b.flush(t)
	checkSteps(t, before, all)
	b = reopened(t, "the last seq", b.s.Disk(), b.l)
	for range 3 {
		d := b.s.Disk()
		if all, err := b.s.Flush(); len(all) != 0 || err != api.ErrFull {
			t.Fatalf("Flush: %d disks, %d, want ErrFull", len(all), err)
		}
		b.check(t, "after ErrFull", api.OK, api.OK)
		if !same(b.s.Disk(), d) {
			t.Fatal("Flush changed the disk")
		}
		b.put(t, key(4), "in memory", b.last()+1)
	}
	stored, err := store.Open(b.s.Disk())
	if err != api.OK || len(stored.Run()) != 31 || len(b.l) != 34 {
		t.Errorf("Open: %d, or what was not written is on the disk", err)
	}
}
