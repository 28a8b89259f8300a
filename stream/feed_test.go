package stream_test

import (
	"fmt"
	"math"
	"math/rand/v2"
	"slices"
	"strings"
	"testing"

	"annalist/api"
	"annalist/run"
	"annalist/stream"
)

// TestP54AnyNumberOfParts feeds stories in all divisions into parts: after each part the slave is what the master was.
func TestP54AnyNumberOfParts(t *testing.T) {
	r := rand.New(rand.NewPCG(2, 9))
	for range 12 {
		s := tell(r, 7)
		for _, pfs := range realms {
			for ends := range 1 << (s.last() + 1) {
				var slave []api.Elem
				from := 0
				for to := range s.last() + 1 {
					if ends>>to&1 == 0 {
						continue
					}
					part, err := stream.Read(s.end(), pfs, from, to)
					if err != api.OK {
						t.Fatalf("Read(.., %d, %d, %d) returned %d", pfs, from, to, err)
					}
					slave = feeds(t, slave, part, own(s.at(to), pfs))
					from = to
				}
			}
		}
	}
}

// TestP54PartsOfLaterMasters feeds parts while the master goes on: what a part says does not depend on when it was read.
func TestP54PartsOfLaterMasters(t *testing.T) {
	for _, s := range stories() {
		for _, pfs := range realms {
			var early, late []api.Elem
			for to := 1; to <= s.last(); to++ {
				now, _ := stream.Read(s.at(to), pfs, to-1, to)
				later, _ := stream.Read(s.end(), pfs, to-1, to)
				early = feeds(t, early, now, own(s.at(to), pfs))
				late = feeds(t, late, later, own(s.at(to), pfs))
			}
		}
	}
}

// TestP54OtherRealmsStay feeds all realms into one run, which has all that the master has then.
func TestP54OtherRealmsStay(t *testing.T) {
	for _, s := range stories() {
		for _, order := range [][]int{{0, 7, 15}, {15, 7, 0}, {7, 15, 0}} {
			var slave []api.Elem
			for i, pfs := range order {
				part, _ := stream.Read(s.end(), pfs, 0, s.last())
				var want []api.Elem
				for _, e := range s.end() {
					if slices.Contains(order[:i+1], e.Key.Pfs) {
						want = append(want, e)
					}
				}
				slave = feeds(t, slave, part, want)
			}
		}
	}
}

func TestP54ReplacesAndAdds(t *testing.T) {
	var (
		other = rec(1, 5, 1, 0, "other realm")
		old   = rec(2, 5, 2, 0, "old")
		gone  = rec(2, 5, 2, 7, "old")
		third = rec(2, 5, 9, 0, "third")
		after = rec(3, 0, 1, 0, "realm after")
	)
	for _, x := range []struct {
		name string
		l    []api.Elem
		news []api.Elem
		want []api.Elem
	}{
		{"nothing to nothing", nil, nil, nil},
		{"nothing to records", []api.Elem{other, old}, nil, []api.Elem{other, old}},
		{"records to nothing", nil, []api.Elem{gone, third}, []api.Elem{gone, third}},
		{"deletion", []api.Elem{old}, []api.Elem{gone}, []api.Elem{gone}},
		{"deletion and next version", []api.Elem{other, old, after}, []api.Elem{gone, third}, []api.Elem{other, gone, third, after}},
		{"a record as it is", []api.Elem{old}, []api.Elem{old}, []api.Elem{old}},
		{"another value", []api.Elem{other, old}, []api.Elem{rec(2, 5, 2, 0, "new")}, []api.Elem{other, rec(2, 5, 2, 0, "new")}},
		{"another deletion", []api.Elem{gone, third}, []api.Elem{rec(2, 5, 2, 9, "old")}, []api.Elem{rec(2, 5, 2, 9, "old"), third}},
		{"no deletion any more", []api.Elem{gone}, []api.Elem{old}, []api.Elem{old}},
		{"between versions", []api.Elem{rec(2, 5, 1, 2, ""), rec(2, 5, 9, 0, "")}, []api.Elem{rec(2, 5, 2, 9, "")}, []api.Elem{rec(2, 5, 1, 2, ""), rec(2, 5, 2, 9, ""), rec(2, 5, 9, 0, "")}},
		{"before all", []api.Elem{after}, []api.Elem{old}, []api.Elem{old, after}},
		{"after all", []api.Elem{other}, []api.Elem{old}, []api.Elem{other, old}},
		{"between keys", []api.Elem{rec(2, 4, 1, 0, ""), rec(2, 6, 1, 0, "")}, []api.Elem{rec(2, 3, 1, 0, ""), old, rec(2, 7, 1, 0, "")}, []api.Elem{rec(2, 3, 1, 0, ""), rec(2, 4, 1, 0, ""), old, rec(2, 6, 1, 0, ""), rec(2, 7, 1, 0, "")}},
		{"same key in another realm", []api.Elem{rec(1, 5, 2, 0, ""), rec(3, 5, 2, 0, "")}, []api.Elem{old}, []api.Elem{rec(1, 5, 2, 0, ""), old, rec(3, 5, 2, 0, "")}},
	} {
		t.Run(x.name, func(t *testing.T) {
			feeds(t, x.l, streamed(2, 0, math.MaxInt32, x.news...), x.want)
		})
	}
}

// TestP54TheResultMustBeARun: a stream of which every frame is valid may still not fit to the run, or to itself.
func TestP54TheResultMustBeARun(t *testing.T) {
	for _, x := range []struct {
		name string
		l    []api.Elem
		news []api.Elem
	}{
		{"the version before is not deleted", []api.Elem{rec(2, 5, 2, 0, "")}, []api.Elem{rec(2, 5, 7, 0, "")}},
		{"the version before is deleted later", []api.Elem{rec(2, 5, 2, 8, "")}, []api.Elem{rec(2, 5, 7, 0, "")}},
		{"the next version was created before", []api.Elem{rec(2, 5, 6, 0, "")}, []api.Elem{rec(2, 5, 2, 7, "")}},
		{"a record is not deleted any more", []api.Elem{rec(2, 5, 2, 6, ""), rec(2, 5, 6, 0, "")}, []api.Elem{rec(2, 5, 2, 0, "")}},
		{"a record is deleted too late", []api.Elem{rec(2, 5, 2, 6, ""), rec(2, 5, 6, 0, "")}, []api.Elem{rec(2, 5, 2, 7, "")}},
		{"overlap in the stream", nil, []api.Elem{rec(2, 5, 2, 0, ""), rec(2, 5, 3, 0, "")}},
		{"overlap of deleted records in the stream", nil, []api.Elem{rec(2, 5, 2, 4, ""), rec(2, 5, 3, 9, "")}},
	} {
		fails(t, x.name, x.l, streamed(2, 0, 9, x.news...), api.ErrForm)
		other := append([]api.Elem{rec(1, 5, 1, 0, "")}, x.l...)
		fails(t, x.name, other, streamed(2, 0, 9, x.news...), api.ErrForm)
	}
}

// many returns records of n keys, as they were created.
func many(pfs, n int) []api.Elem {
	var l []api.Elem
	for i := range n {
		l = append(l, rec(pfs, i, 1, 0, fmt.Sprint(i)))
	}
	return l
}

// deleted returns the same records, deleted at a time.
func deleted(l []api.Elem, tid int) []api.Elem {
	m := slices.Clone(l)
	for i := range m {
		m[i].Gone = tid
	}
	return m
}

func TestP54FourHundredRecords(t *testing.T) {
	l := many(2, 400)
	feeds(t, nil, streamed(2, 0, 5, l...), l)
	feeds(t, l, streamed(2, 0, 5, deleted(l, 5)...), deleted(l, 5))
	feeds(t, l, streamed(2, 0, 5), l)
	feeds(t, l[:399], streamed(2, 0, 5, l[399]), l)
	feeds(t, l[1:], streamed(2, 0, 5, l...), l)
	feeds(t, many(1, 300), streamed(2, 0, 5, l[:100]...), append(many(1, 300), l[:100]...))
	for _, x := range []struct {
		name string
		l    []api.Elem
		news []api.Elem
	}{
		{"401 records in the stream", nil, many(2, 401)},
		{"1000 records in the stream", nil, many(2, 1000)},
		{"400 and one", l, []api.Elem{rec(2, 400, 1, 0, "")}},
		{"400 and one before", l, []api.Elem{{Key: api.Key{Pfs: 1}, Made: 1}}},
		{"one and 400", []api.Elem{rec(2, 400, 1, 0, "")}, l},
		{"all of them again, and one", l, many(2, 401)},
		{"other realms count", many(1, 300), l[:101]},
		{"400 and an overlap", l, []api.Elem{rec(2, 5, 2, 0, "")}},
	} {
		pfs := x.news[0].Key.Pfs
		fails(t, x.name, x.l, streamed(pfs, 0, 5, x.news...), api.ErrFull)
	}
	wrong := append(many(2, 401), rec(2, 1, 1, 0, ""))
	fails(t, "401 records before one in the wrong place", nil, streamed(2, 0, 5, wrong...), api.ErrForm)
	twice := append(many(2, 401), rec(2, 400, 1, 0, ""))
	fails(t, "401 records before one with the spot of the last", nil, streamed(2, 0, 5, twice...), api.ErrForm)
	long := streamed(2, 0, 5, many(2, 401)...)
	fails(t, "401 records and no end", nil, long[:len(long)-9], api.ErrShort)
	fails(t, "401 records and more", nil, long+"z", api.ErrForm)
}

// TestP54InvalidRunsFirst: the error of the run comes before that of the stream.
func TestP54InvalidRunsFirst(t *testing.T) {
	for want, bad := range badRuns() {
		for _, s := range []string{
			"", "z", strings.Repeat("\x00", 30), streamed(2, 0, 5), streamed(16, 0, 5), streamed(2, 0, 5, many(2, 401)...),
			streamed(2, 0, 5, rec(2, 1, 1, 0, ""), rec(2, 1, 2, 0, "")), streamed(2, 0, 5, many(2, 1)...) + "z",
		} {
			fails(t, "no run", bad, s, want)
		}
	}
}

// TestP2ArgumentsAndResultsShareNothing calls each function twice and overwrites what it returns, with the spare capacity.
func TestP2ArgumentsAndResultsShareNothing(t *testing.T) {
	spare := rec(9, 9, 9, 0, "spare")
	mark := rec(6, 6, 6, 0, "overwritten")
	for _, s := range stories() {
		l := s.end()
		part, _ := stream.Read(l, 7, 0, s.last())
		nothing := streamed(7, 3, 3)
		for _, call := range []func(l []api.Elem) ([]api.Elem, api.Errno){
			func(l []api.Elem) ([]api.Elem, api.Errno) { return stream.Upto(l, 7, 4) },
			func(l []api.Elem) ([]api.Elem, api.Errno) { return stream.Upto(l, 0, math.MaxInt32) },
			func(l []api.Elem) ([]api.Elem, api.Errno) { _, err := stream.Read(l, 7, 2, 4); return nil, err },
			func(l []api.Elem) ([]api.Elem, api.Errno) { return stream.Feed(l, part) },
			func(l []api.Elem) ([]api.Elem, api.Errno) { return stream.Feed(l, nothing) },
		} {
			arg := append(slices.Clone(l), spare, spare)[:len(l)]
			first, _ := call(arg)
			want := slices.Clone(first)
			second, _ := call(arg)
			for i := range first[:cap(first)] {
				first[:cap(first)][i] = mark
			}
			if !slices.Equal(second, want) || slices.Contains(second[:cap(second)], mark) {
				t.Fatalf("two results for %v share memory", l)
			}
			for i := range second[:cap(second)] {
				second[:cap(second)][i] = mark
			}
			if !slices.Equal(arg[:len(l)+2], append(slices.Clone(l), spare, spare)) {
				t.Fatalf("%v was changed, or a result shares memory with it", l)
			}
		}
	}
}

// TestP54WritableAfterwards: a run that was fed is written to like any other.
func TestP54WritableAfterwards(t *testing.T) {
	for _, s := range stories() {
		part, _ := stream.Read(s.end(), 7, 0, s.last())
		slave := feeds(t, nil, part, own(s.end(), 7))
		k := api.Key{Pfs: 7, Obj: 1}
		want, _ := run.Put(own(s.end(), 7), k, "new", s.last()+1)
		if got, err := run.Put(slave, k, "new", s.last()+1); !slices.Equal(got, want) || err != api.OK {
			t.Fatalf("Put = %v, %d, want %v", got, err, want)
		}
	}
}
