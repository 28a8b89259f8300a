package stream_test

import (
	"cmp"
	"fmt"
	"math"
	"math/rand/v2"
	"slices"
	"strings"
	"testing"

	"annalist/api"
	"annalist/code"
	"annalist/frame"
	"annalist/run"
	"annalist/stream"
)

// fails fails the test unless Feed returns only this error.
func fails(t *testing.T, name string, l []api.Elem, s string, want api.Errno) {
	t.Helper()
	if got, err := stream.Feed(l, s); len(got) != 0 || err != want {
		t.Fatalf("%s: Feed of %d records with %.200q = %v, %d, want %d", name, len(l), s, got, err, want)
	}
}

// feeds fails the test unless Feed returns this run. It returns the run.
func feeds(t *testing.T, l []api.Elem, s string, want []api.Elem) []api.Elem {
	t.Helper()
	got, err := stream.Feed(l, s)
	if !slices.Equal(got, want) || err != api.OK {
		t.Fatalf("Feed(%v, %.200q) = %v, %d, want %v", l, s, got, err, want)
	}
	return got
}

// number is the number that four bytes of s from i on are.
func number(s string, i int) int {
	return int(s[i])<<24 + int(s[i+1])<<16 + int(s[i+2])<<8 + int(s[i+3])
}

// judge is a second opinion on a stream: its realm, its times and its records, or the error.
func judge(s string) (head [3]int, l []api.Elem, _ api.Errno) {
	for i := 0; ; i++ {
		f, n, err := frame.Get(s)
		if err != api.OK {
			return head, nil, err
		}
		s = s[n:]
		switch {
		case i == 0 && f.Kind == 1 && len(f.Body) == 12:
			head = [3]int{number(f.Body, 0), number(f.Body, 4), number(f.Body, 8)}
			if head[0] > 15 || head[1] > head[2] || head[2] >= 1<<31 {
				return head, nil, api.ErrForm
			}
		case i > 0 && f.Kind == 2:
			all, err := code.All(f.Body)
			if err != api.OK || len(all) != 1 || all[0].Key.Pfs != head[0] {
				return head, nil, api.ErrForm
			}
			if last := max(all[0].Made, all[0].Gone); last <= head[1] || last > head[2] {
				return head, nil, api.ErrForm
			}
			l = append(l, all[0])
			if len(l) > 1 && compare(l[len(l)-2], all[0]) >= 0 {
				return head, nil, api.ErrForm
			}
		case i > 0 && f.Kind == 3 && len(f.Body) == 4 && number(f.Body, 0) == len(l) && s == "":
			return head, l, api.OK
		default:
			return head, nil, api.ErrForm
		}
	}
}

// compare compares records by their spots.
func compare(a, b api.Elem) int {
	return cmp.Or(cmp.Compare(a.Key.Pfs, b.Key.Pfs), cmp.Compare(a.Key.Obj, b.Key.Obj),
		cmp.Compare(a.Key.Off, b.Key.Off), cmp.Compare(a.Made, b.Made))
}

// expect is a second opinion on what Feed returns for a run.
func expect(l []api.Elem, s string) ([]api.Elem, api.Errno) {
	_, news, err := judge(s)
	if err != api.OK {
		return nil, err
	}
	fed := slices.DeleteFunc(slices.Clone(l), func(e api.Elem) bool {
		return slices.ContainsFunc(news, func(n api.Elem) bool { return compare(e, n) == 0 })
	})
	fed = append(fed, news...)
	slices.SortFunc(fed, compare)
	switch {
	case len(fed) > 400:
		return nil, api.ErrFull
	case run.Check(fed) != api.OK:
		return nil, api.ErrForm
	}
	return fed, api.OK
}

// agrees fails the test unless Feed returns what it should. It returns the error.
func agrees(t *testing.T, l []api.Elem, s string) api.Errno {
	t.Helper()
	want, wantErr := expect(l, s)
	if got, err := stream.Feed(l, s); !slices.Equal(got, want) || err != wantErr {
		t.Fatalf("Feed(%v, %.300q) = %v, %d, want %v, %d", l, s, got, err, want, wantErr)
	}
	return wantErr
}

// samples returns the frames of valid streams, and beside them a run that each of them may be fed to.
func samples() (streams [][]api.Frame, base []api.Elem) {
	base = []api.Elem{rec(2, 5, 1, 0, "old"), rec(2, 9, 3, 0, "stays"), rec(3, 5, 1, 0, "other")}
	for _, x := range []struct {
		head [3]int
		l    []api.Elem
	}{
		{[3]int{2, 3, 3}, nil},
		{[3]int{2, 3, 8}, []api.Elem{rec(2, 5, 1, 4, "old"), rec(2, 5, 4, 6, "b"), rec(2, 5, 8, 0, "")}},
		{[3]int{2, 0, math.MaxInt32}, []api.Elem{rec(2, 4, 7, 256, "x"), {Key: api.Key{Pfs: 2, Obj: 1 << 20, Off: 1 << 30}, Made: 1, Gone: math.MaxInt32}}},
	} {
		l := []api.Frame{{Kind: 1, Body: four(x.head[:]...)}}
		for _, e := range x.l {
			l = append(l, api.Frame{Kind: 2, Body: coded(e)})
		}
		streams = append(streams, append(l, api.Frame{Kind: 3, Body: four(len(x.l))}))
	}
	return streams, base
}

// together is a string of frames.
func together(l []api.Frame) string {
	var s string
	for _, f := range l {
		s += framed(f.Kind, f.Body)
	}
	return s
}

func TestP53Streams(t *testing.T) {
	streams, base := samples()
	for _, l := range streams {
		for _, old := range [][]api.Elem{nil, base, base[1:]} {
			if err := agrees(t, old, together(l)); err != api.OK {
				t.Fatalf("the stream %v is refused: %d", l, err)
			}
		}
	}
}

// TestP53EveryByte gives each byte of a stream every value, with the checksums as they were and as they should be.
func TestP53EveryByte(t *testing.T) {
	streams, base := samples()
	for _, l := range streams {
		s := []byte(together(l))
		for i, old := range s {
			for v := range 256 {
				s[i] = byte(v)
				agrees(t, base, string(s))
			}
			s[i] = old
		}
		for i, f := range l {
			changed := slices.Clone(l)
			for kind := 1; kind < 256; kind++ {
				changed[i] = api.Frame{Kind: kind, Body: f.Body}
				agrees(t, base, together(changed))
			}
			for j := range len(f.Body) {
				for v := range 256 {
					changed[i] = api.Frame{Kind: f.Kind, Body: f.Body[:j] + string([]byte{byte(v)}) + f.Body[j+1:]}
					agrees(t, base, together(changed))
				}
			}
		}
	}
}

// TestP53EveryLength cuts streams, and the body of each frame, at every length, and makes each body longer.
func TestP53EveryLength(t *testing.T) {
	streams, base := samples()
	for _, l := range streams {
		s := together(l)
		for n := range len(s) {
			fails(t, "cut", base, s[:n], api.ErrShort)
		}
		for i, f := range l {
			changed := slices.Clone(l)
			for n := range len(f.Body) {
				changed[i].Body = f.Body[:n]
				fails(t, "shorter body", base, together(changed), api.ErrForm)
				changed[i].Body = f.Body[n:]
				if n > 0 {
					fails(t, "body without its beginning", base, together(changed), api.ErrForm)
				}
			}
			for _, more := range []string{"\x00", "z", f.Body, four(0), strings.Repeat("\xff", 100)} {
				changed[i].Body = f.Body + more
				fails(t, "longer body", base, together(changed), api.ErrForm)
				changed[i].Body = more + f.Body
				fails(t, "body with something before it", base, together(changed), api.ErrForm)
			}
		}
	}
}

// TestP53EveryOrder removes, repeats and exchanges frames. Without the last one, or any, the stream is too short.
func TestP53EveryOrder(t *testing.T) {
	streams, base := samples()
	seen := map[api.Errno]bool{}
	for _, l := range streams {
		for i := range l {
			seen[agrees(t, base, together(slices.Delete(slices.Clone(l), i, i+1)))] = true
			for j := range l {
				seen[agrees(t, base, together(slices.Insert(slices.Clone(l), i, l[j])))] = true
				changed := slices.Clone(l)
				changed[i], changed[j] = l[j], l[i]
				seen[agrees(t, base, together(changed))] = true
			}
		}
		fails(t, "no end", base, together(l[:len(l)-1]), api.ErrShort)
	}
	fails(t, "nothing", base, "", api.ErrShort)
	if !seen[api.OK] || !seen[api.ErrShort] || !seen[api.ErrForm] {
		t.Errorf("the results were %v", seen)
	}
}

func TestP53Heads(t *testing.T) {
	end := framed(3, four(0))
	for pfs := range 16 {
		for _, x := range [][2]int{{0, 0}, {0, 1}, {3, 9}, {7, 7}, {0, math.MaxInt32}, {math.MaxInt32, math.MaxInt32}} {
			feeds(t, nil, framed(1, four(pfs, x[0], x[1]))+end, nil)
		}
	}
	for _, x := range [][3]int{
		{16, 0, 0}, {255, 0, 0}, {256, 0, 0}, {1 << 31, 0, 0}, {math.MaxUint32, 0, 0}, {16, 5, 4},
		{0, 1, 0}, {15, 4, 3}, {0, math.MaxInt32, math.MaxInt32 - 1}, {0, math.MaxInt32, 0},
		{0, 0, 1 << 31}, {0, 1 << 31, 1 << 31}, {0, 0, math.MaxUint32}, {0, math.MaxUint32, math.MaxUint32},
		{0, 1 << 31, 5}, {0, math.MaxUint32, 5},
	} {
		fails(t, "head", nil, framed(1, four(x[:]...))+end, api.ErrForm)
	}
}

// TestP53Records: each record is of the realm, and the last thing that happened to it is after from and not after to.
func TestP53Records(t *testing.T) {
	const pfs, from, to = 4, 3, 6
	for _, e := range []api.Elem{
		rec(pfs, 1, 4, 0, ""), rec(pfs, 1, 6, 0, ""), rec(pfs, 1, 1, 4, ""), rec(pfs, 1, 3, 6, ""),
		rec(pfs, 1, 4, 5, ""), rec(pfs, 1, 5, 6, strings.Repeat("v", 40)),
	} {
		feeds(t, nil, streamed(pfs, from, to, e), []api.Elem{e})
	}
	for _, e := range []api.Elem{
		rec(pfs-1, 1, 4, 0, ""), rec(pfs+1, 1, 4, 0, ""), rec(0, 1, 4, 0, ""), rec(15, 1, 4, 0, ""),
		rec(pfs, 1, 1, 0, ""), rec(pfs, 1, 3, 0, ""), rec(pfs, 1, 1, 2, ""), rec(pfs, 1, 1, 3, ""),
		rec(pfs, 1, 7, 0, ""), rec(pfs, 1, 1, 7, ""), rec(pfs, 1, 4, 7, ""), rec(pfs, 1, 7, 8, ""),
		rec(pfs, 1, 4, math.MaxInt32, ""), rec(pfs, 1, math.MaxInt32, 0, ""),
	} {
		fails(t, fmt.Sprint(e), nil, streamed(pfs, from, to, e), api.ErrForm)
	}
	fails(t, "made at 0", nil, streamed(pfs, 0, 0, rec(pfs, 1, 1, 0, "")), api.ErrForm)
}

// TestP53Order tries all pairs of spots.
func TestP53Order(t *testing.T) {
	var l []api.Elem
	for obj := range 3 {
		for off := range 3 {
			for made := 1; made < 6; made += 2 {
				l = append(l, api.Elem{Key: api.Key{Pfs: 1, Obj: obj, Off: off}, Made: made, Gone: made + 2})
			}
		}
	}
	for i, a := range l {
		for j, b := range l {
			s := streamed(1, 0, 9, a, b)
			if i < j {
				feeds(t, nil, s, []api.Elem{a, b})
			} else {
				fails(t, "order", nil, s, api.ErrForm)
			}
		}
	}
	same := []api.Elem{rec(1, 1, 2, 0, "a"), rec(1, 1, 2, 0, "b")}
	fails(t, "same spot, other value", nil, streamed(1, 0, 9, same...), api.ErrForm)
}

func TestP53Ends(t *testing.T) {
	var l []api.Elem
	body := framed(1, four(0, 0, 9))
	for n := range 300 {
		for _, count := range []int{n - 1, n + 1, n + 256, 1<<31 + n, math.MaxUint32, 0} {
			if count != n && count >= 0 {
				fails(t, "wrong number", nil, body+framed(3, four(count)), api.ErrForm)
			}
		}
		feeds(t, nil, body+framed(3, four(n)), l)
		l = append(l, rec(0, n, 1, 0, ""))
		body += framed(2, coded(l[n]))
	}
}

// TestP53NothingAfterTheEnd: what follows the last frame makes this one wrong, whether it is a frame or not.
func TestP53NothingAfterTheEnd(t *testing.T) {
	streams, base := samples()
	for _, l := range streams {
		s := together(l)
		for _, rest := range []string{
			"\x00", "z", "\x01\x00", "\x00\x00\x00\x00\x00", s, s[:17], s[:16], framed(9, ""),
			together(l[len(l)-1:]), framed(3, four(len(l))), strings.Repeat("\xff", 9), framed(2, "")[:4] + "x",
		} {
			fails(t, fmt.Sprintf("%.20q after the end", rest), base, s+rest, api.ErrForm)
		}
	}
}

// TestP53FrameByFrame: the first frame that is wrong determines the error, and of this frame the error of frame.Get.
func TestP53FrameByFrame(t *testing.T) {
	var (
		head   = framed(1, four(2, 0, 9))
		one    = framed(2, coded(rec(2, 1, 3, 0, "")))
		next   = framed(2, coded(rec(2, 2, 3, 0, "")))
		end    = framed(3, four(1))
		noHead = framed(1, four(16, 0, 9))
		noElem = framed(2, "")
		noEnd  = framed(3, four(7))
		zero   = "\x00\x00\x00\x00\x00"
		large  = "\x02\x0b\xb9\x00\x00"
	)
	// torn is a frame with a wrong checksum.
	torn := func(s string) string { return s[:len(s)-1] + string([]byte{s[len(s)-1] + 1}) }
	for _, x := range []struct {
		name string
		s    string
		want api.Errno
	}{
		{"head before what follows", noHead + torn(one), api.ErrForm},
		{"head before the lack of an end", noHead, api.ErrForm},
		{"torn head", torn(head) + one + end, api.ErrSum},
		{"torn and wrong head", torn(noHead) + one + end, api.ErrSum},
		{"torn frame of another kind first", torn(one) + end, api.ErrSum},
		{"another kind first", one + end, api.ErrForm},
		{"no head", end, api.ErrForm},
		{"two heads", head + head + one + end, api.ErrForm},
		{"torn record", head + torn(one) + end, api.ErrSum},
		{"torn and wrong record", head + torn(noElem) + end, api.ErrSum},
		{"record before a torn one", head + noElem + torn(one) + end, api.ErrForm},
		{"torn record before a wrong one", head + torn(one) + noElem + end, api.ErrSum},
		{"record before the end", head + noElem + noEnd, api.ErrForm},
		{"record before the lack of an end", head + one + noElem, api.ErrForm},
		{"order before a torn end", head + next + one + torn(framed(3, four(2))), api.ErrForm},
		{"torn end", head + one + torn(end), api.ErrSum},
		{"torn and wrong end", head + torn(noEnd), api.ErrSum},
		{"torn end before what follows", head + one + torn(end) + "z", api.ErrSum},
		{"end before a torn frame", head + one + noEnd + torn(one), api.ErrForm},
		{"unknown kind", head + one + framed(4, four(1)) + end, api.ErrForm},
		{"torn frame of an unknown kind", head + one + torn(framed(4, four(1))) + end, api.ErrSum},
		{"no kind", head + zero + end, api.ErrForm},
		{"no kind first", zero + head + end, api.ErrForm},
		{"too large", head + large + end, api.ErrForm},
		{"short", head + one + end[:4], api.ErrShort},
		{"short and wrong", head + one + noElem[:4], api.ErrShort},
		{"short after a torn one", head + torn(one) + end[:4], api.ErrSum},
		{"record that is short in a frame that is not", head + framed(2, coded(rec(2, 1, 3, 0, "ab"))[:19]) + end, api.ErrForm},
		{"two records in a frame", head + framed(2, coded(rec(2, 1, 3, 0, ""))+coded(rec(2, 2, 3, 0, ""))) + framed(3, four(2)), api.ErrForm},
		{"record that is none", head + framed(2, "\x02"+four(0, 0, 0, 5)+"\x00") + end, api.ErrForm},
	} {
		fails(t, x.name, nil, x.s, x.want)
		fails(t, x.name, []api.Elem{rec(2, 1, 3, 0, "old")}, x.s, x.want)
	}
	feeds(t, nil, head+one+end, []api.Elem{rec(2, 1, 3, 0, "")})
}

// TestP1AnyString feeds strings of bytes that occur in streams.
func TestP1AnyString(t *testing.T) {
	r := rand.New(rand.NewPCG(8, 3))
	streams, base := samples()
	for range 20000 {
		var s string
		for range r.IntN(4) {
			part := together(streams[r.IntN(len(streams))])
			i := r.IntN(len(part))
			s += part[i : i+r.IntN(len(part)-i+1)]
		}
		agrees(t, base, s)
	}
}
