package realm_test

import (
	"fmt"
	"math"
	"slices"
	"strings"
	"testing"

	"annalist/api"
	"annalist/realm"
	"annalist/run"
)

// rec is a record of a realm.
func rec(pfs, off, made, gone int, val string) api.Elem {
	return api.Elem{Key: api.Key{Pfs: pfs, Off: off}, Made: made, Gone: gone, Val: val}
}

// same compares books field by field.
func same(a, b api.Book) bool {
	return slices.Equal(a.Run, b.Run) && a.Roles == b.Roles && a.Fed == b.Fed
}

// is fails the test unless a call returned this book.
func is(t *testing.T, call string, got api.Book, err api.Errno, want api.Book) {
	t.Helper()
	if err != api.OK || !same(got, want) {
		t.Fatalf("%s: %v, %d, want %v", call, got, err, want)
	}
}

// fails fails the test unless a call returned only this error.
func fails(t *testing.T, call string, got api.Book, err, want api.Errno) {
	t.Helper()
	if err != want || !same(got, api.Book{}) {
		t.Fatalf("%s: %v, %d, want no book and %d", call, got, err, want)
	}
}

// sample is a book with realms in all roles: 0 and 15 are masters, 3 and 7 slaves, 1 and 8 have no records.
func sample() api.Book {
	b := api.Book{Run: []api.Elem{
		rec(0, 1, 2, 5, "a"), rec(0, 1, 5, 0, "b"), rec(0, 2, 9, 0, "c"),
		rec(3, 1, 2, 6, "d"), rec(3, 1, 6, 0, "e"),
		rec(7, 1, 4, 0, "f"),
		rec(15, 0, 1, 20, "g"), rec(15, 0, 30, 0, "h"),
	}}
	for _, pfs := range []int{0, 1, 15} {
		b.Roles[pfs] = api.Master
	}
	for pfs, fed := range map[int]int{3: 6, 7: 10, 8: 0} {
		b.Roles[pfs], b.Fed[pfs] = api.Slave, fed
	}
	return b
}

// with is a book in which a realm is in another role and fed up to fed.
func with(b api.Book, pfs, role, fed int) api.Book {
	b.Run = slices.Clone(b.Run)
	b.Roles[pfs], b.Fed[pfs] = role, fed
	return b
}

// having is a book with other records.
func having(b api.Book, l []api.Elem) api.Book {
	b.Run = slices.Clone(l)
	return b
}

// bad is a book that is none.
type bad struct {
	name string
	b    api.Book
	want api.Errno
}

// badBooks are books that are none, with the errors of Check.
func badBooks() []bad {
	b := sample()
	l := []bad{
		{"401 records", having(b, make([]api.Elem, 401)), api.ErrLarge},
		{"realm 16", having(b, append(slices.Clone(b.Run), rec(16, 1, 1, 0, ""))), api.ErrArg},
		{"negative realm", having(b, []api.Elem{rec(-1, 1, 1, 0, "")}), api.ErrArg},
		{"made at 0", having(b, []api.Elem{rec(0, 1, 0, 0, "")}), api.ErrTid},
		{"long value", having(b, []api.Elem{rec(0, 1, 1, 0, strings.Repeat("v", 41))}), api.ErrLarge},
		{"no order", having(b, []api.Elem{rec(0, 2, 1, 0, ""), rec(0, 1, 1, 0, "")}), api.ErrForm},
		{"overlap", having(b, []api.Elem{rec(0, 2, 1, 5, ""), rec(0, 2, 4, 0, "")}), api.ErrForm},
		{"record of an unused realm", having(b, []api.Elem{rec(2, 1, 1, 0, "")}), api.ErrForm},
		{"last record of an unused realm", having(b, append(slices.Clone(b.Run[:6]), rec(14, 1, 1, 0, ""))), api.ErrForm},
		{"created after the slave was fed", having(b, []api.Elem{rec(3, 1, 7, 0, "")}), api.ErrForm},
		{"deleted after the slave was fed", having(b, []api.Elem{rec(3, 1, 2, 7, "")}), api.ErrForm},
		{"record of a slave that was not fed", having(b, []api.Elem{rec(8, 1, 1, 0, "")}), api.ErrForm},
		{"realm with records unused", with(b, 15, api.Unused, 0), api.ErrForm},
		{"slave with records unused", with(b, 7, api.Unused, 0), api.ErrForm},
		{"the run before the roles", with(having(b, []api.Elem{rec(0, 1, 0, 0, "")}), 4, 3, 0), api.ErrTid},
		{"the run before unused realms", having(b, []api.Elem{rec(2, 1, 1, 0, ""), rec(16, 1, 1, 0, "")}), api.ErrArg},
	}
	for pfs := range 16 {
		for _, role := range []int{-1, 3, 4, 256, 1 << 32, math.MinInt, math.MaxInt} {
			l = append(l, bad{"unknown role", with(b, pfs, role, 0), api.ErrForm})
		}
		for _, fed := range []int{-1, 1 << 31, 1 << 32, math.MinInt, math.MaxInt} {
			l = append(l, bad{"Fed of a slave", with(api.Book{}, pfs, api.Slave, fed), api.ErrForm})
			l = append(l, bad{"Fed of a master", with(api.Book{}, pfs, api.Master, fed), api.ErrForm})
		}
		for _, fed := range []int{-1, 1, 5, math.MaxInt32} {
			l = append(l, bad{"fed master", with(api.Book{}, pfs, api.Master, fed), api.ErrForm})
			l = append(l, bad{"fed unused realm", with(api.Book{}, pfs, api.Unused, fed), api.ErrForm})
		}
	}
	return l
}

// goodBooks are books of all sorts.
func goodBooks() []api.Book {
	b := sample()
	l := []api.Book{
		{},
		b,
		having(b, nil),
		having(b, []api.Elem{rec(3, 1, 6, 0, "")}),
		having(b, []api.Elem{rec(3, 1, 1, 6, "")}),
		with(b, 3, api.Slave, 7),
		with(b, 3, api.Slave, math.MaxInt32),
		with(b, 3, api.Master, 0),
		with(b, 1, api.Unused, 0),
		with(having(b, []api.Elem{rec(0, 1, math.MaxInt32-1, math.MaxInt32, "")}), 8, api.Slave, math.MaxInt32),
		with(having(b, []api.Elem{rec(8, 1, math.MaxInt32-1, math.MaxInt32, "")}), 8, api.Slave, math.MaxInt32),
	}
	for pfs := range 16 {
		l = append(l, with(api.Book{}, pfs, api.Master, 0), with(api.Book{}, pfs, api.Slave, 0), with(api.Book{}, pfs, api.Slave, 9))
	}
	return l
}

func TestP55Check(t *testing.T) {
	for _, b := range goodBooks() {
		if err := realm.Check(b); err != api.OK {
			t.Errorf("Check(%v) = %d", b, err)
		}
	}
	for _, x := range badBooks() {
		if err := realm.Check(x.b); err != x.want {
			t.Errorf("%s: Check = %d, want %d", x.name, err, x.want)
		}
	}
}

// TestP55RecordsOfSlaves tries all records up to a time and all times up to which the slave was fed.
func TestP55RecordsOfSlaves(t *testing.T) {
	for _, pfs := range []int{0, 4, 15} {
		for made := 1; made < 7; made++ {
			for gone := range 7 {
				if gone > 0 && gone <= made {
					continue
				}
				for fed := range 9 {
					b := with(api.Book{Run: []api.Elem{rec(pfs, 1, made, gone, "")}}, pfs, api.Slave, fed)
					want := api.OK
					if made > fed || gone > fed {
						want = api.ErrForm
					}
					if err := realm.Check(b); err != want {
						t.Errorf("Check of a slave fed up to %d with %v = %d, want %d", fed, b.Run, err, want)
					}
				}
			}
		}
	}
}

// TestP55AllFunctionsCheckFirst: whatever the other arguments are, the error of Check is returned.
func TestP55AllFunctionsCheckFirst(t *testing.T) {
	long := strings.Repeat("v", 41)
	for _, x := range badBooks() {
		for _, pfs := range []int{-1, 0, 2, 3, 15, 16, math.MinInt, math.MaxInt} {
			for _, role := range []int{-1, 0, 1, 2, 3} {
				got, err := realm.Make(x.b, pfs, role)
				fails(t, x.name+": Make", got, err, x.want)
			}
			for _, tid := range []int{-1, 0, 1, 50, math.MaxInt} {
				for _, val := range []string{"", long} {
					got, err := realm.Put(x.b, api.Key{Pfs: pfs}, val, tid)
					fails(t, x.name+": Put", got, err, x.want)
				}
				got, err := realm.Cut(x.b, api.Key{Pfs: pfs, Off: 1}, tid)
				fails(t, x.name+": Cut", got, err, x.want)
			}
			got, err := realm.Up(x.b, pfs)
			fails(t, x.name+": Up", got, err, x.want)
			got, err = realm.Down(x.b, pfs)
			fails(t, x.name+": Down", got, err, x.want)
		}
		for _, s := range []string{"", "z", streamed(0, 0, 5), streamed(3, 6, 9), streamed(16, 0, 5), streamed(2, 0, 0) + "z"} {
			got, err := realm.Feed(x.b, s)
			fails(t, x.name+": Feed", got, err, x.want)
		}
	}
}

func TestP56Make(t *testing.T) {
	for _, b := range goodBooks() {
		for pfs := range 16 {
			for _, role := range []int{api.Master, api.Slave} {
				call := fmt.Sprintf("Make(%v, %d, %d)", b, pfs, role)
				got, err := realm.Make(b, pfs, role)
				if b.Roles[pfs] != api.Unused {
					fails(t, call, got, err, api.ErrThere)
					continue
				}
				is(t, call, got, err, with(b, pfs, role, 0))
			}
		}
	}
}

// TestP56InvalidArguments: they come before the error of a realm that is used.
func TestP56InvalidArguments(t *testing.T) {
	for _, b := range goodBooks() {
		for _, pfs := range []int{-1, 16, 256, 1 << 32, math.MinInt, math.MaxInt} {
			for _, role := range []int{-1, api.Unused, api.Master, api.Slave, 3} {
				got, err := realm.Make(b, pfs, role)
				fails(t, fmt.Sprintf("Make(.., %d, %d)", pfs, role), got, err, api.ErrArg)
			}
		}
		for pfs := range 16 {
			for _, role := range []int{api.Unused, -1, 3, 4, 257, 1 << 32, math.MinInt, math.MaxInt} {
				got, err := realm.Make(b, pfs, role)
				fails(t, fmt.Sprintf("Make(.., %d, %d)", pfs, role), got, err, api.ErrArg)
			}
		}
	}
}

// last is the greatest time in a realm.
func last(b api.Book, pfs int) int {
	n := 0
	for _, e := range b.Run {
		if e.Key.Pfs == pfs {
			n = max(n, e.Made, e.Gone)
		}
	}
	return n
}

func TestP59UpAndDown(t *testing.T) {
	for _, b := range goodBooks() {
		for pfs := range 16 {
			up, upErr := realm.Up(b, pfs)
			down, downErr := realm.Down(b, pfs)
			call := fmt.Sprintf("%v, %d", b, pfs)
			switch b.Roles[pfs] {
			case api.Master:
				fails(t, "Up of "+call, up, upErr, api.ErrRole)
				is(t, "Down of "+call, down, downErr, with(b, pfs, api.Slave, last(b, pfs)))
			case api.Slave:
				is(t, "Up of "+call, up, upErr, with(b, pfs, api.Master, 0))
				fails(t, "Down of "+call, down, downErr, api.ErrRole)
			default:
				fails(t, "Up of "+call, up, upErr, api.ErrRole)
				fails(t, "Down of "+call, down, downErr, api.ErrRole)
			}
		}
		for _, pfs := range []int{-1, 16, 256, 1 << 32, math.MinInt, math.MaxInt} {
			got, err := realm.Up(b, pfs)
			fails(t, fmt.Sprintf("Up(.., %d)", pfs), got, err, api.ErrArg)
			got, err = realm.Down(b, pfs)
			fails(t, fmt.Sprintf("Down(.., %d)", pfs), got, err, api.ErrArg)
		}
	}
}

// TestP59GreatestTime: it is that of the realm alone, which may be a creation or a deletion, of any record.
func TestP59GreatestTime(t *testing.T) {
	b := sample()
	for pfs, want := range map[int]int{0: 9, 1: 0, 15: 30} {
		got, err := realm.Down(b, pfs)
		is(t, fmt.Sprint("Down of ", pfs), got, err, with(b, pfs, api.Slave, want))
	}
	b = having(b, []api.Elem{rec(0, 1, 2, 50, ""), rec(0, 2, 3, 0, ""), rec(1, 1, 2, math.MaxInt32, "")})
	for pfs, want := range map[int]int{0: 50, 1: math.MaxInt32, 15: 0} {
		got, err := realm.Down(b, pfs)
		is(t, fmt.Sprint("Down of ", pfs), got, err, with(b, pfs, api.Slave, want))
	}
}

// TestP59ThereAndBack: a slave that was a master for a while knows only up to the last change, not up to where it was fed.
func TestP59ThereAndBack(t *testing.T) {
	b := sample()
	for pfs, want := range map[int]int{3: 6, 7: 4, 8: 0} {
		up, err := realm.Up(b, pfs)
		is(t, fmt.Sprint("Up of ", pfs), up, err, with(b, pfs, api.Master, 0))
		down, err := realm.Down(up, pfs)
		is(t, fmt.Sprint("Down of ", pfs), down, err, with(b, pfs, api.Slave, want))
	}
}

// TestP2BooksAreNotModifiedNorShared calls each function twice and overwrites what it returns, with the spare capacity.
func TestP2BooksAreNotModifiedNorShared(t *testing.T) {
	spare := rec(9, 9, 9, 0, "spare")
	mark := rec(6, 6, 6, 0, "overwritten")
	b := sample()
	for name, call := range map[string]func(b api.Book) (api.Book, api.Errno){
		"Check":                 func(b api.Book) (api.Book, api.Errno) { return api.Book{}, realm.Check(b) },
		"Make":                  func(b api.Book) (api.Book, api.Errno) { return realm.Make(b, 2, api.Slave) },
		"Put":                   func(b api.Book) (api.Book, api.Errno) { return realm.Put(b, api.Key{}, "x", 10) },
		"Put in the last realm": func(b api.Book) (api.Book, api.Errno) { return realm.Put(b, api.Key{Pfs: 15}, "x", 30) },
		"Put in an empty realm": func(b api.Book) (api.Book, api.Errno) { return realm.Put(b, api.Key{Pfs: 1}, "x", 1) },
		"Cut":                   func(b api.Book) (api.Book, api.Errno) { return realm.Cut(b, api.Key{Off: 1}, 9) },
		"Cut of what is new":    func(b api.Book) (api.Book, api.Errno) { return realm.Cut(b, api.Key{Off: 2}, 9) },
		"Feed":                  func(b api.Book) (api.Book, api.Errno) { return realm.Feed(b, streamed(3, 6, 8, rec(3, 2, 7, 0, ""))) },
		"Feed of nothing":       func(b api.Book) (api.Book, api.Errno) { return realm.Feed(b, streamed(3, 6, 8)) },
		"Up":                    func(b api.Book) (api.Book, api.Errno) { return realm.Up(b, 3) },
		"Down":                  func(b api.Book) (api.Book, api.Errno) { return realm.Down(b, 0) },
	} {
		arg := having(b, nil)
		arg.Run = append(slices.Clone(b.Run), spare, spare)[:len(b.Run)]
		first, err := call(arg)
		if err != api.OK {
			t.Fatalf("%s returned %d", name, err)
		}
		want := having(first, first.Run)
		second, _ := call(arg)
		overwrite(first.Run, mark)
		if !same(second, want) || slices.Contains(second.Run[:cap(second.Run)], mark) {
			t.Errorf("two results of %s share memory", name)
		}
		overwrite(second.Run, mark)
		all := arg.Run[:len(b.Run)+2]
		if !same(arg, b) || all[len(b.Run)] != spare || all[len(b.Run)+1] != spare {
			t.Errorf("%s changed its argument, or shares memory with it", name)
		}
	}
}

// overwrite fills a slice and its spare capacity.
func overwrite(l []api.Elem, mark api.Elem) {
	l = l[:cap(l)]
	for i := range l {
		l[i] = mark
	}
}

// own is the part of a run that belongs to a realm.
func own(l []api.Elem, pfs int) []api.Elem {
	var part []api.Elem
	for _, e := range l {
		if e.Key.Pfs == pfs {
			part = append(part, e)
		}
	}
	return part
}

// replaced is a run in which a realm has other records.
func replaced(l []api.Elem, pfs int, part []api.Elem) []api.Elem {
	var m []api.Elem
	for i := range 16 {
		if i == pfs {
			m = append(m, part...)
		} else {
			m = append(m, own(l, i)...)
		}
	}
	return m
}

// TestP57LikeTheRealmAlone compares Put and Cut with run.Put and run.Cut of the records of the realm.
func TestP57LikeTheRealmAlone(t *testing.T) {
	seen := map[api.Errno]bool{}
	keys := []api.Key{{Off: -1}, {Off: 1<<30 + 1}, {Obj: 1<<20 + 1}, {Obj: -1, Off: 1}, {Obj: 1 << 20, Off: 1 << 30}}
	for off := range 4 {
		keys = append(keys, api.Key{Off: off})
	}
	times := []int{-1, 0, 1, 2, 4, 5, 8, 9, 10, 19, 29, 30, 31, math.MaxInt32, 1 << 31, math.MinInt, math.MaxInt}
	for _, b := range goodBooks() {
		for pfs := range 16 {
			for _, k := range keys {
				k.Pfs = pfs
				for _, tid := range times {
					for _, val := range []string{"", "new", strings.Repeat("v", 40), strings.Repeat("v", 41)} {
						want, wantErr := run.Put(own(b.Run, pfs), k, val, tid)
						got, err := realm.Put(b, k, val, tid)
						follows(t, fmt.Sprintf("Put(%v, %v, %q, %d)", b, k, val, tid), b, pfs, got, err, want, wantErr)
						seen[err] = true
					}
					want, wantErr := run.Cut(own(b.Run, pfs), k, tid)
					got, err := realm.Cut(b, k, tid)
					follows(t, fmt.Sprintf("Cut(%v, %v, %d)", b, k, tid), b, pfs, got, err, want, wantErr)
					seen[err] = true
				}
			}
		}
	}
	for _, err := range []api.Errno{api.OK, api.ErrArg, api.ErrLarge, api.ErrNone, api.ErrTid, api.ErrRole} {
		if !seen[err] {
			t.Errorf("there was no result %d", err)
		}
	}
}

// follows fails the test unless a call did in the book what was done with the records of the realm, or refused to.
func follows(t *testing.T, call string, b api.Book, pfs int, got api.Book, err api.Errno, want []api.Elem, wantErr api.Errno) {
	t.Helper()
	if b.Roles[pfs] != api.Master {
		fails(t, call, got, err, api.ErrRole)
		return
	}
	if wantErr != api.OK {
		fails(t, call, got, err, wantErr)
		return
	}
	is(t, call, got, err, having(b, replaced(b.Run, pfs, want)))
}

// TestP57NoRealm: keys of no realm are ErrArg, whatever else is wrong.
func TestP57NoRealm(t *testing.T) {
	for _, b := range goodBooks() {
		for _, pfs := range []int{-1, 16, 256, 1 << 32, math.MinInt, math.MaxInt} {
			for _, k := range []api.Key{{Pfs: pfs}, {Pfs: pfs, Off: -1}} {
				got, err := realm.Put(b, k, strings.Repeat("v", 41), 0)
				fails(t, fmt.Sprint("Put of ", k), got, err, api.ErrArg)
				got, err = realm.Put(b, k, "x", 40)
				fails(t, fmt.Sprint("Put of ", k), got, err, api.ErrArg)
				got, err = realm.Cut(b, k, 40)
				fails(t, fmt.Sprint("Cut of ", k), got, err, api.ErrArg)
			}
		}
	}
}

// TestP57OtherRealmsHaveOtherTimes: what is late in one realm is early in another.
func TestP57OtherRealmsHaveOtherTimes(t *testing.T) {
	b := sample()
	for pfs, tid := range map[int]int{0: 9, 1: 1, 15: 30} {
		k := api.Key{Pfs: pfs, Off: 5}
		got, err := realm.Put(b, k, "x", tid-1)
		if pfs == 1 {
			fails(t, "Put before all times", got, err, api.ErrTid)
		} else {
			fails(t, "Put too early", got, err, api.ErrTid)
			cut, cutErr := realm.Cut(b, api.Key{Pfs: pfs, Off: 1}, tid-1)
			fails(t, "Cut too early", cut, cutErr, api.ErrTid)
		}
		got, err = realm.Put(b, k, "x", tid)
		part, _ := run.Put(own(b.Run, pfs), k, "x", tid)
		is(t, "Put", got, err, having(b, replaced(b.Run, pfs, part)))
		got, err = realm.Cut(got, k, tid)
		is(t, "Cut", got, err, b)
	}
}

// TestP57TheExample: a master that becomes a slave rejects Put.
func TestP57TheExample(t *testing.T) {
	b := sample()
	k := api.Key{Pfs: 15}
	_, err := realm.Put(b, k, "x", 40)
	if err != api.OK {
		t.Fatalf("Put returned %d", err)
	}
	down, _ := realm.Down(b, 15)
	got, err := realm.Put(down, k, "x", 40)
	fails(t, "Put", got, err, api.ErrRole)
	got, err = realm.Put(down, api.Key{Pfs: 15, Off: -1}, strings.Repeat("v", 41), 0)
	fails(t, "Put of what would be wrong in a master, too", got, err, api.ErrRole)
	got, err = realm.Cut(down, k, 40)
	fails(t, "Cut", got, err, api.ErrRole)
	up, _ := realm.Up(down, 15)
	if _, err := realm.Put(up, k, "x", 40); err != api.OK {
		t.Fatalf("Put after Up returned %d", err)
	}
}

// full is a book with n records in realm 2 and 400-n in realm 5, all not deleted.
func full(n int) api.Book {
	var b api.Book
	for i := range 400 {
		pfs, off := 2, i
		if i >= n {
			pfs, off = 5, i-n
		}
		b.Run = append(b.Run, rec(pfs, off, 3, 0, "old"))
	}
	b.Roles[2], b.Roles[5] = api.Master, api.Master
	return b
}

// TestP57AllRealmsCount: a record more than 400 is ErrFull, after all other errors. Others may change.
func TestP57AllRealmsCount(t *testing.T) {
	for _, n := range []int{0, 1, 200, 399, 400} {
		b := full(n)
		for _, pfs := range []int{2, 5} {
			got, err := realm.Put(b, api.Key{Pfs: pfs, Off: 400}, "x", 3)
			fails(t, "Put of a new key", got, err, api.ErrFull)
			got, err = realm.Put(b, api.Key{Pfs: pfs, Off: -1}, "x", 3)
			fails(t, "Put of a key that is none", got, err, api.ErrArg)
			got, err = realm.Put(b, api.Key{Pfs: pfs, Off: 400}, strings.Repeat("v", 41), 3)
			fails(t, "Put of a long value", got, err, api.ErrLarge)
			got, err = realm.Put(b, api.Key{Pfs: 4}, "x", 3)
			fails(t, "Put in an unused realm", got, err, api.ErrRole)
			if len(own(b.Run, pfs)) == 0 {
				continue
			}
			k := api.Key{Pfs: pfs}
			got, err = realm.Put(b, api.Key{Pfs: pfs, Off: 400}, "x", 2)
			fails(t, "Put too early", got, err, api.ErrTid)
			got, err = realm.Put(b, k, "x", 4)
			fails(t, "Put of a new version", got, err, api.ErrFull)
			want, _ := run.Put(own(b.Run, pfs), k, "x", 3)
			got, err = realm.Put(b, k, "x", 3)
			is(t, "Put at the same time", got, err, having(b, replaced(b.Run, pfs, want)))
			want, _ = run.Cut(own(b.Run, pfs), k, 4)
			got, err = realm.Cut(b, k, 4)
			is(t, "Cut", got, err, having(b, replaced(b.Run, pfs, want)))
			room, err := realm.Cut(b, k, 3)
			is(t, "Cut at the same time", room, err, having(b, replaced(b.Run, pfs, own(b.Run, pfs)[1:])))
			got, err = realm.Put(room, k, "old", 3)
			is(t, "Put of the 400th record", got, err, b)
		}
	}
}
