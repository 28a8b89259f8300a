package store_test

import (
	"fmt"
	"math"
	"math/rand/v2"
	"slices"
	"strings"
	"testing"

	"annalist/api"
	"annalist/disk"
	"annalist/prune"
	"annalist/run"
	"annalist/store"
	"annalist/undo"
)

var (
	full = strings.Repeat("v", 40)
	over = strings.Repeat("v", 41)
)

// key is one of many keys in several realms and objects.
func key(i int) api.Key {
	return api.Key{Pfs: i % 3 * 7, Obj: i / 3 % 5, Off: i / 15}
}

// both is a store with the run that it should have.
type both struct {
	s *store.Store
	l []api.Elem
}

// start is a new store with a run without records.
func start() *both {
	return &both{s: store.New()}
}

// check fails the test unless the store has the run, or if a call did not return the error that it should.
func (b *both) check(t *testing.T, call string, err, want api.Errno) {
	t.Helper()
	if got := b.s.Run(); err != want || !slices.Equal(got, b.l) {
		t.Fatalf("%s: %d, want %d; then %d records, want %d", call, err, want, len(got), len(b.l))
	}
}

// follow makes l the run, unless there is an error.
func (b *both) follow(l []api.Elem, err api.Errno) api.Errno {
	if err == api.OK {
		b.l = l
	}
	return err
}

// put fails the test unless Put does with the store what run.Put does with the run. It returns the error of both.
func (b *both) put(t *testing.T, k api.Key, val string, tid int) api.Errno {
	t.Helper()
	want := b.follow(run.Put(b.l, k, val, tid))
	b.check(t, fmt.Sprintf("Put %v, %q, %d", k, val, tid), b.s.Put(k, val, tid), want)
	return want
}

// cut fails the test unless Cut does with the store what run.Cut does with the run. It returns the error of both.
func (b *both) cut(t *testing.T, k api.Key, tid int) api.Errno {
	t.Helper()
	want := b.follow(run.Cut(b.l, k, tid))
	b.check(t, fmt.Sprintf("Cut %v, %d", k, tid), b.s.Cut(k, tid), want)
	return want
}

// prune fails the test unless Prune does with the store what prune.Kept does with the run. It returns the error of both.
func (b *both) prune(t *testing.T, keep []int) api.Errno {
	t.Helper()
	want := b.follow(prune.Kept(b.l, keep))
	b.check(t, fmt.Sprintf("Prune %v", keep), b.s.Prune(keep), want)
	return want
}

// last is the greatest time in the run.
func (b *both) last() int {
	last, _ := run.Last(b.l)
	return last
}

// change makes n changes of few keys at the last time or a little later, some of which have errors.
func (b *both) change(t *testing.T, r *rand.Rand, n int) {
	t.Helper()
	for range n {
		k, tid := key(r.IntN(40)), max(1, b.last()+r.IntN(3))
		switch r.IntN(12) {
		case 0, 1, 2:
			b.cut(t, k, tid)
		case 3:
			b.put(t, k, "late", tid-1-r.IntN(2))
		case 4:
			if r.IntN(20) == 0 {
				b.prune(t, []int{r.IntN(tid), tid})
			}
		default:
			b.put(t, k, full[:r.IntN(41)], tid)
		}
	}
}

// flush writes the store to its disk and returns the disks that occur.
func (b *both) flush(t *testing.T) []api.Disk {
	t.Helper()
	all, err := b.s.Flush()
	b.check(t, "Flush", err, api.OK)
	if len(all) == 0 || !same(b.s.Disk(), all[len(all)-1]) {
		t.Fatalf("Flush returns %d disks, the last of which is not that of the store", len(all))
	}
	return all
}

// same compares disks field by field.
func same(x, y api.Disk) bool {
	return slices.Equal(x.Pages, y.Pages) && slices.Equal(x.Writes, y.Writes)
}

// reopened fails the test unless Open returns a store with the run and with the same disk. It returns this store.
func reopened(t *testing.T, name string, d api.Disk, want []api.Elem) *both {
	t.Helper()
	s, err := store.Open(d)
	if err != api.OK || s == nil {
		t.Fatalf("%s: Open: %d", name, err)
	}
	if got := s.Run(); !slices.Equal(got, want) || !same(s.Disk(), d) {
		t.Fatalf("%s: Open: %d records, want %d; the same disk: %v", name, len(got), len(want), same(s.Disk(), d))
	}
	return &both{s: s, l: want}
}

// orders returns the numbers below n in several orders.
func orders(n int) map[string][]int {
	up := make([]int, n)
	for i := range up {
		up[i] = i
	}
	down := slices.Clone(up)
	slices.Reverse(down)
	return map[string][]int{"up": up, "down": down, "mixed": rand.New(rand.NewPCG(5, uint64(n))).Perm(n)}
}

// filled is a store with a record for each key of a list, all of them created at 1.
func filled(t *testing.T, keys []int, val string) *both {
	t.Helper()
	b := start()
	for _, i := range keys {
		if err := b.put(t, key(i), val, 1); err != api.OK {
			t.Fatalf("the record %d of the sample: %d", i, err)
		}
	}
	return b
}

// checkNew fails the test unless a store is like that of New.
func checkNew(t *testing.T, name string, s *store.Store) {
	t.Helper()
	d := s.Disk()
	if seq, _, err := undo.Seq(d); seq != 0 || err != api.OK {
		t.Errorf("%s: the head has %d, %d, want 0, OK", name, seq, err)
	}
	if len(d.Pages) != 201 || len(d.Writes) != 0 || disk.Check(d) != api.OK || len(s.Run()) != 0 {
		t.Errorf("%s: %d pages, %d writes, %d records", name, len(d.Pages), len(d.Writes), len(s.Run()))
	}
	if e, err := s.At(api.Key{}, 1); e != (api.Elem{}) || err != api.ErrNone {
		t.Errorf("%s: At = %v, %d, want ErrNone", name, e, err)
	}
}

func TestP46New(t *testing.T) {
	s := store.New()
	checkNew(t, "New", s)
	o := reopened(t, "New", s.Disk(), nil)
	checkNew(t, "Open", o.s)
	again := reopened(t, "Open", o.s.Disk(), nil)
	checkNew(t, "Open again", again.s)
	for _, b := range []*both{{s: s}, o, again} {
		b.change(t, rand.New(rand.NewPCG(1, 2)), 100)
		b.flush(t)
	}
	if len(o.l) < 20 || !same(s.Disk(), o.s.Disk()) || !same(s.Disk(), again.s.Disk()) {
		t.Errorf("stores that were reopened when they were new differ from one that was not, with %d records", len(o.l))
	}
	checkNew(t, "another New", store.New())
}

// TestP46TheDiskIsThatOfTheLastFlush: changes are on the disk only after Flush, those with and those without an error.
func TestP46TheDiskIsThatOfTheLastFlush(t *testing.T) {
	r := rand.New(rand.NewPCG(3, 4))
	b := start()
	var stored []api.Elem
	for range 12 {
		d := b.s.Disk()
		b.change(t, r, 40)
		if !same(b.s.Disk(), d) {
			t.Fatal("the disk was changed without Flush")
		}
		reopened(t, "before Flush", b.s.Disk(), stored)
		b.flush(t)
		stored = b.l
		reopened(t, "after Flush", b.s.Disk(), stored)
	}
	if len(stored) < 50 {
		t.Fatalf("%d records, so the sample shows little", len(stored))
	}
}

func TestP48PutCutAndPruneLikeRun(t *testing.T) {
	for seed := range 8 {
		r := rand.New(rand.NewPCG(48, uint64(seed)))
		b := start()
		for range 10 {
			b.change(t, r, 60)
			if r.IntN(2) == 0 {
				b.flush(t)
			}
			if r.IntN(2) == 0 {
				b.flush(t)
				b = reopened(t, "after changes", b.s.Disk(), b.l)
			}
		}
	}
}

// fails fails the test unless a call returns this error and the store remains as it is.
func (b *both) fails(t *testing.T, name string, call func(s *store.Store) api.Errno, want api.Errno) {
	t.Helper()
	d := b.s.Disk()
	err := call(b.s)
	b.check(t, name, err, want)
	if !same(b.s.Disk(), d) {
		t.Fatalf("%s: the disk was changed", name)
	}
}

func TestP48Errors(t *testing.T) {
	b := start()
	k, gone := api.Key{Obj: 7}, api.Key{Obj: 8}
	b.put(t, k, "old", 3)
	b.put(t, gone, "gone", 4)
	b.flush(t)
	b.put(t, k, "new", 5)
	b.cut(t, gone, 6)
	put := func(k api.Key, val string, tid int) func(s *store.Store) api.Errno {
		return func(s *store.Store) api.Errno { return s.Put(k, val, tid) }
	}
	cut := func(k api.Key, tid int) func(s *store.Store) api.Errno {
		return func(s *store.Store) api.Errno { return s.Cut(k, tid) }
	}
	for _, x := range []api.Key{{Pfs: -1}, {Pfs: 16}, {Obj: -1}, {Obj: 1<<20 + 1}, {Off: -1}, {Off: 1<<30 + 1}, {Off: math.MinInt}, {Pfs: math.MaxInt}} {
		b.fails(t, "Put of a bad key", put(x, over, 0), api.ErrArg)
		b.fails(t, "Cut of a bad key", cut(x, 0), api.ErrArg)
	}
	for _, tid := range []int{0, -1, 1 << 31, math.MinInt, math.MaxInt} {
		b.fails(t, "Put at no time", put(k, over, tid), api.ErrTid)
		b.fails(t, "Cut at no time", cut(k, tid), api.ErrTid)
	}
	for _, tid := range []int{1, 3, 5} {
		b.fails(t, "Put of a long value", put(k, over, tid), api.ErrLarge)
		b.fails(t, "Put of a value", put(k, full, tid), api.ErrTid)
		b.fails(t, "Cut before the last time", cut(k, tid), api.ErrTid)
		b.fails(t, "Cut of no key before the last time", cut(api.Key{}, tid), api.ErrTid)
	}
	for _, tid := range []int{6, 7, math.MaxInt32} {
		b.fails(t, "Cut of what is deleted", cut(gone, tid), api.ErrNone)
		b.fails(t, "Cut of no key", cut(api.Key{}, tid), api.ErrNone)
	}
	prune := func(keep ...int) func(s *store.Store) api.Errno {
		return func(s *store.Store) api.Errno { return s.Prune(keep) }
	}
	b.fails(t, "Prune with 21 times", prune(make([]int, 21)...), api.ErrLarge)
	b.fails(t, "Prune with 21 bad times", prune(slices.Repeat([]int{-1}, 21)...), api.ErrLarge)
	for _, tid := range []int{-1, 1 << 31, math.MinInt, math.MaxInt} {
		b.fails(t, "Prune with a bad time", prune(3, tid, 4), api.ErrTid)
	}
}

func TestP48Prune(t *testing.T) {
	for _, keep := range [][]int{nil, {}, {0}, {1}, {5, 2}, {3, 3, 9, 1}, {math.MaxInt32, 0}, make([]int, 20)} {
		b := start()
		for i := range 100 {
			b.put(t, key(i%7), fmt.Sprint(i), 1+i/7)
		}
		b.cut(t, key(2), 40)
		b.flush(t)
		if err := b.prune(t, keep); err != api.OK || len(b.l) > 6+7*len(keep) {
			t.Fatalf("Prune %v: %d, %d records are left", keep, err, len(b.l))
		}
		b.put(t, key(2), "after", 40)
		b.flush(t)
		reopened(t, fmt.Sprint("after Prune ", keep), b.s.Disk(), b.l)
	}
}

// TestP48EveryRunHasRoom writes 400 records of the greatest size, in orders that fill the leaves well or badly.
func TestP48EveryRunHasRoom(t *testing.T) {
	for name, order := range orders(400) {
		b := start()
		for n, i := range order {
			b.put(t, key(i), full, 1)
			if n%50 == 49 {
				b.flush(t)
				reopened(t, fmt.Sprint(n+1, " records, ", name), b.s.Disk(), b.l)
			}
		}
		if err := b.put(t, key(400), "", 1); err != api.ErrFull || len(b.l) != 400 {
			t.Fatalf("%s: the 401st of %d records: %d, want ErrFull", name, len(b.l)+1, err)
		}
		if err := b.put(t, key(0), "replaced", 1); err != api.OK {
			t.Fatalf("%s: a record is replaced: %d", name, err)
		}
		if err := b.put(t, key(0), "", 2); err != api.ErrFull {
			t.Fatalf("%s: a new version: %d, want ErrFull", name, err)
		}
		for _, i := range order[100:300] {
			b.cut(t, key(i), 1)
		}
		b.flush(t)
		reopened(t, "half of the records are removed, "+name, b.s.Disk(), b.l)
		for i := range 200 {
			b.put(t, key(1000+i*7), full, math.MaxInt32)
		}
		b.flush(t)
		reopened(t, "400 records again, "+name, b.s.Disk(), b.l)
	}
}

// TestP48Versions writes 400 versions of one key.
func TestP48Versions(t *testing.T) {
	b := start()
	for i := range 400 {
		if err := b.put(t, key(9), fmt.Sprint(i), 1+i); err != api.OK {
			t.Fatalf("version %d: %d", i, err)
		}
	}
	if err := b.put(t, key(9), "", 401); err != api.ErrFull {
		t.Fatalf("version 400: %d, want ErrFull", err)
	}
	b.flush(t)
	reopened(t, "400 versions", b.s.Disk(), b.l)
}

func TestP49At(t *testing.T) {
	r := rand.New(rand.NewPCG(49, 0))
	b := start()
	b.put(t, key(0), "from the first time on", 1)
	for range 5 {
		b.change(t, r, 60)
		if r.IntN(2) == 0 {
			b.flush(t)
			b = reopened(t, "before At", b.s.Disk(), b.l)
		}
		keys := []api.Key{{Pfs: -1}, {Pfs: 16}, {Obj: 1<<20 + 1}, {Off: -1}, {Off: math.MaxInt}, {Pfs: 15, Obj: 1 << 20, Off: 1 << 30}}
		for i := range 45 {
			keys = append(keys, key(i))
		}
		times := []int{math.MinInt, -1, 0, math.MaxInt32, math.MaxInt}
		for tid := range b.last() + 2 {
			times = append(times, tid)
		}
		for _, k := range keys {
			for _, tid := range times[:min(len(times), 60)] {
				want, wantErr := run.At(b.l, k, tid)
				if got, err := b.s.At(k, tid); got != want || err != wantErr {
					t.Fatalf("At(%v, %d) = %v, %d, want %v, %d", k, tid, got, err, want, wantErr)
				}
			}
		}
	}
}

// TestP48ThePastStays: whatever is written, what was visible at a time before remains so.
func TestP48ThePastStays(t *testing.T) {
	b := start()
	b.put(t, key(3), "old", 4)
	b.put(t, key(3), "new", 14)
	b.cut(t, key(3), 20)
	b.flush(t)
	for tid, want := range map[int]string{4: "old", 13: "old", 14: "new", 19: "new"} {
		if e, err := b.s.At(key(3), tid); e.Val != want || err != api.OK {
			t.Errorf("At %d: %v, %d, want %s", tid, e, err, want)
		}
	}
	for _, tid := range []int{3, 20, 21} {
		if e, err := b.s.At(key(3), tid); e != (api.Elem{}) || err != api.ErrNone {
			t.Errorf("At %d: %v, %d, want ErrNone", tid, e, err)
		}
	}
}

// TestP1ZeroStore: a Store that is not that of New or Open is of no use, but its methods do not panic.
func TestP1ZeroStore(t *testing.T) {
	for range 2 {
		var s store.Store
		s.Disk()
		s.Run()
		s.Flush()
		s.Put(key(1), "v", 1)
		s.At(key(1), 1)
		s.Cut(key(1), 2)
		s.Prune(nil)
		s.Flush()
	}
}

// spare copies a slice into one with capacity to spare.
func spare[E any](l []E) []E {
	return append(make([]E, 0, len(l)+3), l...)
}

// spoil writes over all memory of a slice, with its spare capacity. What has been written over before is found again.
func spoil[E comparable](t *testing.T, l []E, with E) {
	t.Helper()
	l = l[:cap(l)]
	if slices.Contains(l, with) {
		t.Fatal("results share memory")
	}
	for i := range l {
		l[i] = with
	}
}

// spoilDisk writes over all memory of a disk.
func spoilDisk(t *testing.T, d api.Disk) {
	t.Helper()
	spoil(t, d.Pages, "spoiled")
	spoil(t, d.Writes, api.Write{Page: -7})
}

func TestP2ResultsShareNoMemoryWithAStore(t *testing.T) {
	r := rand.New(rand.NewPCG(2, 2))
	b := start()
	for range 5 {
		b.change(t, r, 40)
		d := b.s.Disk()
		for range 2 {
			spoilDisk(t, b.s.Disk())
			spoil(t, b.s.Run(), api.Elem{Made: -7})
		}
		b.check(t, "after results were spoiled", api.OK, api.OK)
		if !same(b.s.Disk(), d) {
			t.Fatal("the disk shares memory with a result")
		}
		all := b.flush(t)
		d = b.s.Disk()
		for _, x := range all {
			spoilDisk(t, x)
		}
		b.check(t, "after disks were spoiled", api.OK, api.OK)
		if !same(b.s.Disk(), d) {
			t.Fatal("the disk shares memory with one that Flush returned")
		}
	}
}

func TestP2ArgumentsAreNotModifiedNorRetained(t *testing.T) {
	b := start()
	b.change(t, rand.New(rand.NewPCG(2, 3)), 80)
	b.flush(t)
	b.put(t, key(1), "later", b.last()+1)
	for i, d := range b.flush(t) {
		arg := api.Disk{Pages: spare(d.Pages), Writes: spare(d.Writes)}
		s, err := store.Open(arg)
		if err != api.OK || !same(arg, d) || arg.Pages[:202][201] != "" || arg.Writes[:cap(arg.Writes)][len(d.Writes)] != (api.Write{}) {
			t.Fatalf("disk %d: Open: %d, or it modified the disk", i, err)
		}
		l, want := s.Run(), s.Disk()
		spoilDisk(t, arg)
		if !slices.Equal(s.Run(), l) || !same(s.Disk(), want) {
			t.Fatalf("disk %d: Open retained the disk", i)
		}
	}
	keep := spare([]int{9, 3, 7})
	b.s.Prune(keep)
	if !slices.Equal(keep[:cap(keep)], []int{9, 3, 7, 0, 0, 0}[:cap(keep)]) {
		t.Errorf("Prune modified %v", keep[:cap(keep)])
	}
}
