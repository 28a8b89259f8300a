package stream_test

import (
	"fmt"
	"math"
	"math/rand/v2"
	"slices"
	"strings"
	"testing"

	"annalist/api"
	"annalist/code"
	"annalist/frame"
	"annalist/run"
	"annalist/stream"
)

// rec is a record of a realm.
func rec(pfs, off, made, gone int, val string) api.Elem {
	return api.Elem{Key: api.Key{Pfs: pfs, Off: off}, Made: made, Gone: gone, Val: val}
}

// framed is a frame of a kind.
func framed(kind int, body string) string {
	s, err := frame.Put(api.Frame{Kind: kind, Body: body})
	if err != api.OK {
		panic("no frame of the sample")
	}
	return s
}

// four is each number in four bytes.
func four(l ...int) string {
	var s string
	for _, n := range l {
		for _, unit := range []int{1 << 24, 1 << 16, 1 << 8, 1} {
			s += string([]byte{byte(n / unit % 256)})
		}
	}
	return s
}

// coded is a record as bytes.
func coded(e api.Elem) string {
	s, err := code.Write(e)
	if err != api.OK {
		panic("no record of the sample")
	}
	return s
}

// streamed is a stream with records, valid or not.
func streamed(pfs, from, to int, l ...api.Elem) string {
	s := framed(1, four(pfs, from, to))
	for _, e := range l {
		s += framed(2, coded(e))
	}
	return s + framed(3, four(len(l)))
}

// own is the part of a run that belongs to a realm.
func own(l []api.Elem, pfs int) []api.Elem {
	var part []api.Elem
	for _, e := range l {
		if e.Key.Pfs == pfs {
			part = append(part, e)
		}
	}
	return part
}

// story is what a run was at each time, when everything that happened then had happened.
type story [][]api.Elem

// last is the greatest time of a story.
func (s story) last() int {
	return len(s) - 1
}

// at is what the run was at a time, which may be later than the story.
func (s story) at(t int) []api.Elem {
	return s[min(t, s.last())]
}

// end is the run in which all of the story is.
func (s story) end() []api.Elem {
	return s[s.last()]
}

// realms are those in which something happens in a story.
var realms = []int{0, 7, 15}

// tell makes up a story: at each time a few keys are written or deleted, some of them more than once.
func tell(r *rand.Rand, last int) story {
	s := story{nil}
	var l []api.Elem
	for t := 1; t <= last; t++ {
		for range r.IntN(5) {
			k := api.Key{Pfs: realms[r.IntN(len(realms))], Obj: r.IntN(2), Off: r.IntN(2)}
			var m []api.Elem
			var err api.Errno
			if r.IntN(3) > 0 {
				m, err = run.Put(l, k, fmt.Sprint(t, ".", r.IntN(3)), t)
			} else {
				m, err = run.Cut(l, k, t)
			}
			if err == api.OK {
				l = m
			}
		}
		s = append(s, slices.Clone(l))
	}
	return s
}

// stories returns many of them.
func stories() []story {
	r := rand.New(rand.NewPCG(5, 1))
	l := []story{{nil}}
	for i := range 60 {
		l = append(l, tell(r, 1+i%9))
	}
	return l
}

// badRuns are lists of records that are no runs, with the errors of run.Check.
func badRuns() map[api.Errno][]api.Elem {
	return map[api.Errno][]api.Elem{
		api.ErrLarge: make([]api.Elem, 401),
		api.ErrArg:   {rec(0, 1, 1, 0, ""), rec(16, 1, 1, 0, "")},
		api.ErrTid:   {rec(0, 1, 1, 0, ""), rec(0, 2, 3, 3, "")},
		api.ErrForm:  {rec(0, 1, 1, 0, ""), rec(0, 1, 2, 0, "")},
	}
}

var (
	// badRealms are numbers that are of no realm.
	badRealms = []int{-1, 16, 255, 256, 1 << 32, math.MinInt, math.MaxInt}
	// badTimes are numbers that are neither 0 nor a time.
	badTimes = []int{-1, 1 << 31, 1 << 32, math.MinInt32, math.MinInt, math.MaxInt}
)

// upto fails the test unless Upto returns these records.
func upto(t *testing.T, l []api.Elem, pfs, tid int, want []api.Elem) {
	t.Helper()
	if got, err := stream.Upto(l, pfs, tid); !slices.Equal(got, want) || err != api.OK {
		t.Fatalf("Upto(%v, %d, %d) = %v, %d, want %v", l, pfs, tid, got, err, want)
	}
}

// TestP51AsItWas compares the records of a time with what the run was then.
func TestP51AsItWas(t *testing.T) {
	for _, s := range stories() {
		for pfs := range 16 {
			for tid := range s.last() + 3 {
				upto(t, s.end(), pfs, tid, own(s.at(tid), pfs))
			}
			upto(t, s.end(), pfs, math.MaxInt32, own(s.end(), pfs))
		}
	}
}

func TestP51Times(t *testing.T) {
	l := []api.Elem{rec(3, 1, 2, 4, "a"), rec(3, 1, 4, 0, "b"), rec(3, 2, 3, 5, "c"), rec(3, 9, math.MaxInt32-1, math.MaxInt32, "d")}
	for _, x := range []struct {
		tid  int
		want []api.Elem
	}{
		{0, nil},
		{1, nil},
		{2, []api.Elem{rec(3, 1, 2, 0, "a")}},
		{3, []api.Elem{rec(3, 1, 2, 0, "a"), rec(3, 2, 3, 0, "c")}},
		{4, []api.Elem{l[0], l[1], rec(3, 2, 3, 0, "c")}},
		{5, l[:3]},
		{6, l[:3]},
		{math.MaxInt32 - 2, l[:3]},
		{math.MaxInt32 - 1, []api.Elem{l[0], l[1], l[2], rec(3, 9, math.MaxInt32-1, 0, "d")}},
		{math.MaxInt32, l},
	} {
		upto(t, l, 3, x.tid, x.want)
		upto(t, l, 2, x.tid, nil)
		upto(t, l, 4, x.tid, nil)
	}
}

func TestP51Realms(t *testing.T) {
	var l []api.Elem
	for pfs := range 16 {
		l = append(l, rec(pfs, 0, 1, 0, ""), rec(pfs, 1<<30, 1+pfs, 0, fmt.Sprint(pfs)))
	}
	for pfs := range 16 {
		upto(t, l, pfs, 16, l[2*pfs:2*pfs+2])
		upto(t, l, pfs, 1+pfs, l[2*pfs:2*pfs+2])
		if pfs > 0 {
			upto(t, l, pfs, pfs, l[2*pfs:2*pfs+1])
		}
	}
}

// TestP51ReturnsTheFirstError: the error of the run comes first, and that of the realm before that of the time.
func TestP51ReturnsTheFirstError(t *testing.T) {
	fails := func(l []api.Elem, pfs, tid int, want api.Errno) {
		t.Helper()
		if got, err := stream.Upto(l, pfs, tid); len(got) != 0 || err != want {
			t.Errorf("Upto of %d records, %d, %d = %v, %d, want %d", len(l), pfs, tid, got, err, want)
		}
	}
	l := []api.Elem{rec(0, 1, 1, 0, "")}
	for _, tid := range append(badTimes, 1) {
		for _, pfs := range append(badRealms, 0) {
			for want, bad := range badRuns() {
				fails(bad, pfs, tid, want)
			}
		}
		for _, pfs := range badRealms {
			fails(l, pfs, tid, api.ErrArg)
			fails(nil, pfs, tid, api.ErrArg)
		}
	}
	for _, tid := range badTimes {
		fails(l, 0, tid, api.ErrTid)
		fails(nil, 15, tid, api.ErrTid)
	}
}

// read fails the test unless Read returns this stream.
func read(t *testing.T, l []api.Elem, pfs, from, to int, want string) {
	t.Helper()
	if got, err := stream.Read(l, pfs, from, to); got != want || err != api.OK {
		t.Fatalf("Read(%v, %d, %d, %d) = %q, %d, want %q", l, pfs, from, to, got, err, want)
	}
}

func TestP52TheBytes(t *testing.T) {
	l := []api.Elem{rec(1, 5, 4, 0, "x"), rec(2, 5, 1, 4, "a"), rec(2, 5, 4, 1<<30, "bc"), rec(2, 6, 2, 3, "y"), rec(3, 5, 4, 0, "z")}
	read(t, l, 2, 3, 0x01020304, ""+
		"\x01\x00\x0c"+"\x00\x00\x00\x02"+"\x00\x00\x00\x03"+"\x01\x02\x03\x04"+"\x85\xbd"+
		"\x02\x00\x13"+"\x02\x00\x00\x00\x00\x00\x00\x00\x05\x00\x00\x00\x01\x00\x00\x00\x04\x01a"+"\xe0\x30"+
		"\x02\x00\x14"+"\x02\x00\x00\x00\x00\x00\x00\x00\x05\x00\x00\x00\x04\x00\x00\x00\x00\x02bc"+"\x16\x27"+
		"\x03\x00\x04"+"\x00\x00\x00\x02"+"\x71\xc6")
	read(t, nil, 15, math.MaxInt32, math.MaxInt32, ""+
		"\x01\x00\x0c"+"\x00\x00\x00\x0f"+"\x7f\xff\xff\xff"+"\x7f\xff\xff\xff"+"\xbe\x07"+
		"\x03\x00\x04"+"\x00\x00\x00\x00"+"\x51\x84")
}

// TestP52WhatIsNew takes as new what is in the run at one time and was not, or not in the same way, at the other.
func TestP52WhatIsNew(t *testing.T) {
	for _, s := range stories() {
		for _, pfs := range append(realms, 1) {
			for to := range s.last() + 2 {
				for from := range to + 1 {
					var news []api.Elem
					for _, e := range own(s.at(to), pfs) {
						if !slices.Contains(s.at(from), e) {
							news = append(news, e)
						}
					}
					read(t, s.end(), pfs, from, to, streamed(pfs, from, to, news...))
				}
			}
		}
	}
}

// TestP52Times: a deletion that is later than to is not known, so it doesn't make a record new either.
func TestP52Times(t *testing.T) {
	l := []api.Elem{rec(0, 1, 2, 5, "a")}
	made, gone := rec(0, 1, 2, 0, "a"), l[0]
	for _, x := range []struct {
		from, to int
		want     []api.Elem
	}{
		{0, 0, nil},
		{0, 1, nil},
		{0, 2, []api.Elem{made}},
		{1, 4, []api.Elem{made}},
		{2, 2, nil},
		{2, 4, nil},
		{3, 4, nil},
		{4, 4, nil},
		{0, 5, []api.Elem{gone}},
		{2, 5, []api.Elem{gone}},
		{4, 5, []api.Elem{gone}},
		{4, math.MaxInt32, []api.Elem{gone}},
		{5, 5, nil},
		{5, math.MaxInt32, nil},
	} {
		read(t, l, 0, x.from, x.to, streamed(0, x.from, x.to, x.want...))
	}
}

// TestP52TheExample: from a time to itself nothing is new.
func TestP52TheExample(t *testing.T) {
	for _, s := range stories() {
		for tid := range s.last() + 2 {
			read(t, s.end(), 7, tid, tid, streamed(7, tid, tid))
		}
	}
}

// TestP52FourHundredRecords reads as many records as there may be, as long as they may be.
func TestP52FourHundredRecords(t *testing.T) {
	var l []api.Elem
	for i := range 400 {
		l = append(l, rec(4, 1<<30-400+i, math.MaxInt32-1, math.MaxInt32, strings.Repeat("v", 40)))
	}
	want := streamed(4, math.MaxInt32-1, math.MaxInt32, l...)
	if len(want) != 17+400*63+9 {
		t.Fatalf("the stream has %d bytes", len(want))
	}
	read(t, l, 4, math.MaxInt32-1, math.MaxInt32, want)
}

// TestP52ReturnsTheFirstError: the error of the run comes first, and that of the realm before that of the times.
func TestP52ReturnsTheFirstError(t *testing.T) {
	fails := func(l []api.Elem, pfs, from, to int, want api.Errno) {
		t.Helper()
		if got, err := stream.Read(l, pfs, from, to); got != "" || err != want {
			t.Errorf("Read of %d records, %d, %d, %d = %q, %d, want %d", len(l), pfs, from, to, got, err, want)
		}
	}
	pairs := [][2]int{{4, 3}, {1, 0}, {math.MaxInt32, math.MaxInt32 - 1}}
	for _, tid := range badTimes {
		pairs = append(pairs, [2]int{tid, tid}, [2]int{tid, 5}, [2]int{0, tid}, [2]int{5, tid}, [2]int{-1, tid})
	}
	l := []api.Elem{rec(0, 1, 1, 0, "")}
	for _, x := range append(pairs, [2]int{0, 5}) {
		for _, pfs := range append(badRealms, 0) {
			for want, bad := range badRuns() {
				fails(bad, pfs, x[0], x[1], want)
			}
		}
		for _, pfs := range badRealms {
			fails(l, pfs, x[0], x[1], api.ErrArg)
		}
	}
	for _, x := range pairs {
		fails(l, 0, x[0], x[1], api.ErrTid)
		fails(nil, 15, x[0], x[1], api.ErrTid)
	}
}
