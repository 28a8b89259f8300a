package realm_test

import (
	"fmt"
	"math"
	"math/rand/v2"
	"slices"
	"strings"
	"testing"

	"annalist/api"
	"annalist/code"
	"annalist/frame"
	"annalist/realm"
	"annalist/stream"
)

// framed is a frame of a kind.
func framed(kind int, body string) string {
	s, err := frame.Put(api.Frame{Kind: kind, Body: body})
	if err != api.OK {
		panic("no frame of the sample")
	}
	return s
}

// four is each number in four bytes.
func four(l ...int) string {
	var s string
	for _, n := range l {
		for _, unit := range []int{1 << 24, 1 << 16, 1 << 8, 1} {
			s += string([]byte{byte(n / unit % 256)})
		}
	}
	return s
}

// streamed is a stream with records, valid or not.
func streamed(pfs, from, to int, l ...api.Elem) string {
	s := framed(1, four(pfs, from, to))
	for _, e := range l {
		text, err := code.Write(e)
		if err != api.OK {
			panic("no record of the sample")
		}
		s += framed(2, text)
	}
	return s + framed(3, four(len(l)))
}

func TestP58Feed(t *testing.T) {
	b := sample()
	for _, x := range []struct {
		name      string
		pfs, from int
		to        int
		news      []api.Elem
		want      []api.Elem
	}{
		{"nothing, no time", 3, 6, 6, nil, b.Run[3:5]},
		{"nothing", 3, 6, 9, nil, b.Run[3:5]},
		{"nothing, up to the last time", 3, 6, math.MaxInt32, nil, b.Run[3:5]},
		{"a record at the last time", 3, 6, math.MaxInt32, []api.Elem{rec(3, 5, math.MaxInt32, 0, "x")}, []api.Elem{b.Run[3], b.Run[4], rec(3, 5, math.MaxInt32, 0, "x")}},
		{"a deletion", 3, 6, 9, []api.Elem{rec(3, 1, 6, 8, "e")}, []api.Elem{b.Run[3], rec(3, 1, 6, 8, "e")}},
		{"a next version", 7, 10, 12, []api.Elem{rec(7, 1, 4, 11, "f"), rec(7, 1, 11, 0, "g")}, []api.Elem{rec(7, 1, 4, 11, "f"), rec(7, 1, 11, 0, "g")}},
		{"the first records", 8, 0, 3, []api.Elem{rec(8, 0, 1, 0, "a"), rec(8, 1, 3, 0, "b")}, []api.Elem{rec(8, 0, 1, 0, "a"), rec(8, 1, 3, 0, "b")}},
		{"times that are over in other realms", 8, 0, 1, []api.Elem{rec(8, 0, 1, 0, "a")}, []api.Elem{rec(8, 0, 1, 0, "a")}},
	} {
		got, err := realm.Feed(b, streamed(x.pfs, x.from, x.to, x.news...))
		is(t, x.name, got, err, with(having(b, replaced(b.Run, x.pfs, x.want)), x.pfs, api.Slave, x.to))
	}
}

// TestP58RolesAndTimes tries all realms and many times to begin with: only a slave is fed, and only where it ended.
func TestP58RolesAndTimes(t *testing.T) {
	for _, b := range goodBooks() {
		for pfs := range 16 {
			for _, from := range []int{0, 1, 5, 6, 7, 9, 10, 11, 256, math.MaxInt32 - 1, math.MaxInt32} {
				call := fmt.Sprintf("Feed(%v) from %d in %d", b, from, pfs)
				got, err := realm.Feed(b, streamed(pfs, from, math.MaxInt32))
				switch {
				case b.Roles[pfs] != api.Slave:
					fails(t, call, got, err, api.ErrRole)
				case b.Fed[pfs] != from:
					fails(t, call, got, err, api.ErrTid)
				default:
					is(t, call, got, err, with(b, pfs, api.Slave, math.MaxInt32))
				}
			}
		}
	}
}

// TestP58ReturnsTheFirstError: first those of the stream by itself, then those of its realm, then those of the result.
func TestP58ReturnsTheFirstError(t *testing.T) {
	torn := func(s string) string { return s[:len(s)-1] + string([]byte{s[len(s)-1] + 1}) }
	overlap := []api.Elem{rec(3, 5, 7, 0, ""), rec(3, 5, 8, 0, "")}
	other := func(l []api.Elem, pfs int) []api.Elem {
		m := slices.Clone(l)
		for i := range m {
			m[i].Key.Pfs = pfs
		}
		return m
	}
	var many []api.Elem
	for i := range 401 {
		many = append(many, rec(3, i+5, 7, 0, ""))
	}
	for _, x := range []struct {
		name string
		s    string
		want api.Errno
	}{
		{"no stream", "", api.ErrShort},
		{"no frame", "\x00\x00\x00\x00\x00", api.ErrForm},
		{"realm 16", streamed(16, 0, 9), api.ErrForm},
		{"stream before role", streamed(0, 0, 9, rec(0, 1, 10, 0, "")), api.ErrForm},
		{"short stream before role", streamed(0, 0, 9)[:20], api.ErrShort},
		{"torn stream before role", torn(streamed(0, 0, 9)), api.ErrSum},
		{"more than a stream before role", streamed(0, 0, 9) + "z", api.ErrForm},
		{"order before role", streamed(0, 0, 9, rec(0, 2, 9, 0, ""), rec(0, 1, 9, 0, "")), api.ErrForm},
		{"same spot before role", streamed(0, 0, 9, rec(0, 1, 9, 0, ""), rec(0, 1, 9, 0, "")), api.ErrForm},
		{"stream before time", streamed(3, 5, 9) + "z", api.ErrForm},
		{"torn stream before time", torn(streamed(3, 5, 9)), api.ErrSum},
		{"short stream before time", streamed(3, 5, 9)[:20], api.ErrShort},
		{"order before fullness", streamed(3, 6, 9, append(many, many[0])...), api.ErrForm},
		{"master", streamed(0, 0, 9), api.ErrRole},
		{"unused realm", streamed(2, 0, 9), api.ErrRole},
		{"role before time", streamed(0, 4, 9), api.ErrRole},
		{"role before overlap", streamed(0, 6, 9, other(overlap, 0)...), api.ErrRole},
		{"role before fullness", streamed(2, 0, 9, other(many, 2)...), api.ErrRole},
		{"too early", streamed(3, 5, 9), api.ErrTid},
		{"too late", streamed(3, 7, 9), api.ErrTid},
		{"not fed yet", streamed(8, 1, 9), api.ErrTid},
		{"time before overlap", streamed(3, 5, 9, overlap...), api.ErrTid},
		{"time before fullness", streamed(3, 5, 9, many...), api.ErrTid},
		{"overlap", streamed(3, 6, 9, overlap...), api.ErrForm},
		{"overlap with what was there", streamed(3, 6, 9, rec(3, 1, 7, 0, "")), api.ErrForm},
		{"fullness", streamed(3, 6, 9, many...), api.ErrFull},
		{"fullness with what was there", streamed(3, 6, 9, many[:393]...), api.ErrFull},
		{"fullness before overlap", streamed(3, 6, 9, append([]api.Elem{rec(3, 1, 7, 0, "")}, many[:392]...)...), api.ErrFull},
	} {
		got, err := realm.Feed(sample(), x.s)
		fails(t, x.name, got, err, x.want)
	}
	b := sample()
	got, err := realm.Feed(b, streamed(3, 6, 9, many[:392]...))
	is(t, "400 records", got, err, with(having(b, replaced(b.Run, 3, append(own(b.Run, 3), many[:392]...))), 3, api.Slave, 9))
}

// change makes a few changes in a master, all at one time.
func change(t *testing.T, r *rand.Rand, b api.Book, pfs, now int) api.Book {
	t.Helper()
	for range r.IntN(4) {
		k := api.Key{Pfs: pfs, Obj: r.IntN(2), Off: r.IntN(3)}
		var next api.Book
		var err api.Errno
		if r.IntN(3) > 0 {
			next, err = realm.Put(b, k, strings.Repeat("v", r.IntN(5)), now)
		} else {
			next, err = realm.Cut(b, k, now)
		}
		if err == api.OK {
			b = next
		} else if err != api.ErrNone {
			t.Fatalf("a change of %v at %d returned %d", k, now, err)
		}
	}
	return b
}

// TestP58SlavesEqualTheirMasters feeds two slaves in parts of different lengths while their masters are written to.
func TestP58SlavesEqualTheirMasters(t *testing.T) {
	r := rand.New(rand.NewPCG(4, 4))
	pfses := []int{0, 6, 15}
	for range 60 {
		var master api.Book
		var slaves [2]api.Book
		for _, pfs := range pfses {
			master, _ = realm.Make(master, pfs, api.Master)
			for i := range slaves {
				slaves[i], _ = realm.Make(slaves[i], pfs, api.Slave)
			}
		}
		for now := 1; now < 12; now++ {
			for _, pfs := range pfses {
				master = change(t, r, master, pfs, now)
				for i := range slaves {
					if r.IntN(3) == 0 {
						slaves[i] = catchUp(t, master, slaves[i], pfs, now)
					}
				}
			}
		}
		for i := range slaves {
			for _, pfs := range pfses {
				slaves[i] = catchUp(t, master, slaves[i], pfs, 12)
			}
			if !slices.Equal(slaves[i].Run, master.Run) {
				t.Fatalf("a slave has %v, its master %v", slaves[i].Run, master.Run)
			}
		}
	}
}

// catchUp feeds a slave up to a time at which nothing will change in its master any more.
func catchUp(t *testing.T, master, slave api.Book, pfs, to int) api.Book {
	t.Helper()
	s, err := stream.Read(master.Run, pfs, slave.Fed[pfs], to)
	if err != api.OK {
		t.Fatalf("Read returned %d", err)
	}
	got, err := realm.Feed(slave, s)
	is(t, "Feed", got, err, with(having(slave, replaced(slave.Run, pfs, own(master.Run, pfs))), pfs, api.Slave, to))
	return got
}

// TestP59MastersAndSlavesChangeRoles: whoever is the master is written to, and the other one is fed from then on.
func TestP59MastersAndSlavesChangeRoles(t *testing.T) {
	r := rand.New(rand.NewPCG(7, 7))
	const pfs = 5
	for range 60 {
		master, _ := realm.Make(api.Book{}, pfs, api.Master)
		slave, _ := realm.Make(api.Book{}, pfs, api.Slave)
		for now := 1; now < 20; now++ {
			master = change(t, r, master, pfs, now)
			if r.IntN(2) == 0 {
				continue
			}
			slave = catchUp(t, master, slave, pfs, now)
			if r.IntN(2) == 0 {
				continue
			}
			down, err := realm.Down(master, pfs)
			is(t, "Down", down, err, with(master, pfs, api.Slave, last(master, pfs)))
			up, err := realm.Up(slave, pfs)
			is(t, "Up", up, err, with(slave, pfs, api.Master, 0))
			master, slave = up, down
		}
	}
}
