package write_test

import (
	"fmt"
	"maps"
	"math"
	"slices"
	"strings"
	"testing"

	"annalist/api"
	"annalist/past"
	"annalist/run"
	"annalist/tree"
	"annalist/write"
)

// now is the time at which the last records of history were created, and of those that were deleted the last ones.
const now = 40

// history returns a run of n records. Key i has 1 + i%4 of them: some end where the next one begins, some before it.
// The last one of a key was deleted, is not deleted, or was created at now and is not deleted.
func history(n int) []api.Elem {
	var l []api.Elem
	for i := 0; len(l) < n; i++ {
		k := api.Key{Pfs: i / 40, Obj: i / 8 % 5, Off: 1 + 2*(i%8)}
		made := 2 + i*7%13
		for j := range 1 + i%4 {
			gone := made + 1 + (i+j)%3
			e := api.Elem{Key: k, Made: made, Gone: gone, Val: fmt.Sprint(i, ".", j)}
			if j == i%4 {
				e = last(e, i)
			}
			l = append(l, e)
			made = gone + (i+j)%2
		}
	}
	return l[:n]
}

// last makes e the last record of key i.
func last(e api.Elem, i int) api.Elem {
	switch i % 7 {
	case 1:
		e.Gone = now
	case 2, 3:
		e.Gone = 0
	case 4, 5:
		e.Made, e.Gone = now, 0
	}
	return e
}

// fresh returns a run of n records of different keys that were all created at now.
func fresh(n int) []api.Elem {
	var l []api.Elem
	for i := range n {
		l = append(l, api.Elem{Key: api.Key{Obj: i / 8, Off: 1 + 2*(i%8)}, Made: now, Val: fmt.Sprint(i)})
	}
	return l
}

// versions returns a run of n records of one key, the last of which is not deleted.
func versions(n int) []api.Elem {
	var l []api.Elem
	for i := range n {
		l = append(l, api.Elem{Key: api.Key{Off: 1}, Made: 1 + i, Gone: 2 + i, Val: fmt.Sprint(i)})
	}
	l[n-1].Gone = 0
	return l
}

// spot returns the spot of a record.
func spot(e api.Elem) api.Spot {
	return api.Spot{Key: e.Key, Made: e.Made}
}

// built is a tree of records, in leaves with these numbers of them and levels of inner nodes with these numbers of
// children, from the lowest level to the root. A separator is the first spot after it or, if low, the least there may be.
func built(l []api.Elem, low bool, leaves []int, levels ...[]int) api.Tree {
	var t api.Tree
	var level []int
	for _, n := range leaves {
		level = append(level, len(t.Nodes))
		t.Nodes = append(t.Nodes, api.Node{Kind: api.Leaf, Elems: l[:n]})
		l = l[n:]
	}
	for _, sizes := range levels {
		var above []int
		for _, n := range sizes {
			above = append(above, len(t.Nodes))
			t.Nodes = append(t.Nodes, over(t, level[:n], low))
			level = level[n:]
		}
		level = above
	}
	t.Root = level[0]
	return cloned(t)
}

// over is an inner node with these children.
func over(t api.Tree, kids []int, low bool) api.Node {
	x := api.Node{Kind: api.Inner, Kids: kids}
	for i, kid := range kids {
		l := below(t, kid)
		if i > 0 && low {
			left := below(t, kids[i-1])
			s := spot(left[len(left)-1])
			s.Made++
			x.Seps = append(x.Seps, s)
		} else if i > 0 {
			x.Seps = append(x.Seps, spot(l[0]))
		}
		x.Tids = append(x.Tids, greatest(l))
	}
	return x
}

// below returns the records in the subtree of node i.
func below(t api.Tree, i int) []api.Elem {
	l := slices.Clone(t.Nodes[i].Elems)
	for _, kid := range t.Nodes[i].Kids {
		l = append(l, below(t, kid)...)
	}
	return l
}

// greatest returns the greatest time of records.
func greatest(l []api.Elem) int {
	t := 0
	for _, e := range l {
		t = max(t, e.Made, e.Gone)
	}
	return t
}

// cloned copies a tree into slices with capacity to spare.
func cloned(t api.Tree) api.Tree {
	c := api.Tree{Root: t.Root, Nodes: make([]api.Node, 0, len(t.Nodes)+2)}
	for _, n := range t.Nodes {
		c.Nodes = append(c.Nodes, api.Node{
			Kind:  n.Kind,
			Elems: append(make([]api.Elem, 0, 12), n.Elems...),
			Kids:  append(make([]int, 0, 12), n.Kids...),
			Seps:  append(make([]api.Spot, 0, 12), n.Seps...),
			Tids:  append(make([]int, 0, 12), n.Tids...),
		})
	}
	return c
}

// renumbered is a tree of size nodes in which node i has the number to(i), and the others are free.
func renumbered(t api.Tree, size int, to func(i int) int) api.Tree {
	r := api.Tree{Root: to(t.Root), Nodes: make([]api.Node, size)}
	for i, n := range cloned(t).Nodes {
		for j, kid := range n.Kids {
			n.Kids[j] = to(kid)
		}
		r.Nodes[to(i)] = n
	}
	return r
}

// times repeats a number.
func times(n, x int) []int {
	return slices.Repeat([]int{x}, n)
}

// sample is a tree with its name, and the error of past.Check.
type sample struct {
	name string
	t    api.Tree
	want api.Errno
}

// samples returns trees of several shapes whose records are runs.
func samples(t *testing.T) []sample {
	t.Helper()
	var l []sample
	for _, low := range []bool{false, true} {
		for _, x := range []sample{
			{name: "no records", t: built(nil, low, []int{0})},
			{name: "one record", t: built(fresh(1), low, []int{1})},
			{name: "one leaf", t: built(fresh(8), low, []int{8})},
			{name: "versions in one leaf", t: built(versions(8), low, []int{8})},
			{name: "two small leaves", t: built(fresh(8), low, []int{4, 4}, []int{2})},
			{name: "two leaves", t: built(history(13), low, []int{8, 5}, []int{2})},
			{name: "versions in eight full leaves", t: built(versions(64), low, times(8, 8), []int{8})},
			{name: "history in eight leaves", t: built(history(44), low, []int{4, 8, 5, 4, 7, 6, 4, 6}, []int{8})},
			{name: "three levels", t: built(history(60), low, []int{4, 4, 8, 4, 4, 4, 4, 8, 4, 8, 4, 4}, []int{4, 4, 4}, []int{3})},
			{name: "four small levels", t: built(fresh(128), low, times(32, 4), times(8, 4), []int{4, 4}, []int{2})},
			{name: "full leaves", t: built(history(256), low, times(32, 8), times(4, 8), []int{4})},
			{name: "400 records", t: built(history(400), low, times(50, 8), times(10, 5), []int{5, 5}, []int{2})},
		} {
			n := len(x.t.Nodes)
			l = append(l,
				sample{name: fmt.Sprint(x.name, ", low separators: ", low), t: x.t},
				sample{name: fmt.Sprint(x.name, ", low separators: ", low, ", between free nodes"), t: renumbered(x.t, 2*n+1, func(i int) int { return 2*(n-i) - 1 })})
		}
	}
	for _, x := range l {
		if err := past.Check(x.t); err != api.OK {
			t.Fatalf("%s: the sample is no tree with a run: %d", x.name, err)
		}
	}
	return l
}

// keys returns n of the keys of records and of those beside them, and the least and the greatest one.
func keys(l []api.Elem, n int) []api.Key {
	r := []api.Key{{}, {Pfs: 15, Obj: 1 << 20, Off: 1 << 30}}
	for i := 0; i < len(l); i += 1 + len(l)/n {
		k := l[i].Key
		r = append(r, k, api.Key{Pfs: k.Pfs, Obj: k.Obj, Off: k.Off - 1}, api.Key{Pfs: k.Pfs, Obj: k.Obj, Off: k.Off + 1})
	}
	return r
}

// call is a call of Put or Cut, with what run.Put or run.Cut does instead.
type call struct {
	name   string
	onTree func(t api.Tree) (api.Tree, api.Errno)
	onRun  func(l []api.Elem) ([]api.Elem, api.Errno)
}

// put is a call of Put.
func put(k api.Key, val string, tid int) call {
	return call{
		fmt.Sprintf("Put %v, %q, %d", k, val, tid),
		func(t api.Tree) (api.Tree, api.Errno) { return write.Put(t, k, val, tid) },
		func(l []api.Elem) ([]api.Elem, api.Errno) { return run.Put(l, k, val, tid) },
	}
}

// cut is a call of Cut.
func cut(k api.Key, tid int) call {
	return call{
		fmt.Sprintf("Cut %v, %d", k, tid),
		func(t api.Tree) (api.Tree, api.Errno) { return write.Cut(t, k, tid) },
		func(l []api.Elem) ([]api.Elem, api.Errno) { return run.Cut(l, k, tid) },
	}
}

// agree fails the test unless a call does with a tree what it does with its records. It returns both results.
func agree(t *testing.T, name string, x api.Tree, c call) (api.Tree, []api.Elem, api.Errno) {
	t.Helper()
	name = fmt.Sprint(name, ": ", c.name)
	want, wantErr := c.onRun(below(x, x.Root))
	got, err := c.onTree(x)
	if wantErr != api.OK {
		refused(t, name, got, err, wantErr)
		return api.Tree{}, nil, err
	}
	holds(t, name, got, err, want)
	return got, want, err
}

// holds fails the test unless x is a tree of these records that is no deeper than it can be.
func holds(t *testing.T, name string, x api.Tree, err api.Errno, want []api.Elem) {
	t.Helper()
	if err != api.OK {
		t.Fatalf("%s: %d, want OK", name, err)
	}
	if got, err := tree.All(x); !slices.Equal(got, want) || err != api.OK {
		t.Fatalf("%s: All = %v, %d, want %v, of %v", name, got, err, want, x)
	}
	// The fewest records of a tree with so many levels: two children of the root, four in each other node.
	most := 1
	for fewest := 8; fewest <= len(want); fewest *= 4 {
		most++
	}
	if depth, err := tree.Depth(x); depth > most || err != api.OK {
		t.Fatalf("%s: Depth = %d, %d with %d records, want at most %d", name, depth, err, len(want), most)
	}
}

// refused fails the test unless there is only this error.
func refused(t *testing.T, name string, got api.Tree, err, want api.Errno) {
	t.Helper()
	if err != want || got.Root != 0 || len(got.Nodes) != 0 {
		t.Fatalf("%s: %v, %d, want no tree and %d", name, got, err, want)
	}
}

// later returns the last time of records, and some from it on that are possible, if there is one.
func later(l []api.Elem) []int {
	tid := max(greatest(l), 1)
	return []int{tid, tid + 1, tid + 9, math.MaxInt32}
}

func TestP32Put(t *testing.T) {
	for _, x := range samples(t) {
		l := below(x.t, x.t.Root)
		for _, k := range keys(l, 40) {
			for i, tid := range later(l) {
				agree(t, x.name, x.t, put(k, []string{"new", "", strings.Repeat("x", 40), "0.0"}[i], tid))
			}
		}
	}
}

func TestP33Cut(t *testing.T) {
	for _, x := range samples(t) {
		l := below(x.t, x.t.Root)
		for _, k := range keys(l, 40) {
			for _, tid := range later(l) {
				agree(t, x.name, x.t, cut(k, tid))
			}
		}
	}
}

// TestP32P33OneKey checks what becomes of the versions of one key, record by record.
func TestP32P33OneKey(t *testing.T) {
	k := api.Key{Obj: 5, Off: 6}
	rec := func(made, gone int, val string) api.Elem { return api.Elem{Key: k, Made: made, Gone: gone, Val: val} }
	x := tree.New()
	for _, y := range []struct {
		call
		want []api.Elem
	}{
		{put(k, "a", 1), []api.Elem{rec(1, 0, "a")}},
		{put(k, "b", 1), []api.Elem{rec(1, 0, "b")}},
		{put(k, "b", 1), []api.Elem{rec(1, 0, "b")}},
		{put(k, "b", 4), []api.Elem{rec(1, 4, "b"), rec(4, 0, "b")}},
		{put(k, "c", 4), []api.Elem{rec(1, 4, "b"), rec(4, 0, "c")}},
		{cut(k, 4), []api.Elem{rec(1, 4, "b")}},
		{put(k, "d", 4), []api.Elem{rec(1, 4, "b"), rec(4, 0, "d")}},
		{cut(k, 7), []api.Elem{rec(1, 4, "b"), rec(4, 7, "d")}},
		{put(k, "e", 7), []api.Elem{rec(1, 4, "b"), rec(4, 7, "d"), rec(7, 0, "e")}},
		{cut(k, 7), []api.Elem{rec(1, 4, "b"), rec(4, 7, "d")}},
		{put(k, "f", 9), []api.Elem{rec(1, 4, "b"), rec(4, 7, "d"), rec(9, 0, "f")}},
		{put(k, "", math.MaxInt32), []api.Elem{rec(1, 4, "b"), rec(4, 7, "d"), rec(9, math.MaxInt32, "f"), rec(math.MaxInt32, 0, "")}},
	} {
		var err api.Errno
		x, err = y.onTree(x)
		holds(t, y.name, x, err, y.want)
	}
}

// TestP33CutTwice: a key that is deleted cannot be deleted again, nor one that was never there.
func TestP33CutTwice(t *testing.T) {
	k := api.Key{Off: 3}
	x, _ := write.Put(tree.New(), k, "a", 1)
	x, err := write.Cut(x, k, 5)
	holds(t, "first Cut", x, err, []api.Elem{{Key: k, Made: 1, Gone: 5, Val: "a"}})
	for _, tid := range []int{5, 6, math.MaxInt32} {
		got, err := write.Cut(x, k, tid)
		refused(t, fmt.Sprint("Cut again at ", tid), got, err, api.ErrNone)
		got, err = write.Cut(x, api.Key{Off: 2}, tid)
		refused(t, fmt.Sprint("Cut of another key at ", tid), got, err, api.ErrNone)
	}
	x, _ = write.Put(x, k, "b", 5)
	x, err = write.Cut(x, k, 5)
	holds(t, "Cut at the time of the second Put", x, err, []api.Elem{{Key: k, Made: 1, Gone: 5, Val: "a"}})
	got, err := write.Cut(x, k, 5)
	refused(t, "Cut again", got, err, api.ErrNone)
}

// TestP32P33TheWholeTree writes keys in several orders, deletes them at the same time in others, and leaves nothing.
func TestP32P33TheWholeTree(t *testing.T) {
	const prime = 101 // every factor below it gives another order of the 100 keys
	for _, factors := range [][2]int{{1, 1}, {1, 100}, {37, 1}, {50, 37}, {7, 11}} {
		x := tree.New()
		for i := range 100 {
			x, _, _ = agree(t, "growing", x, put(api.Key{Off: (i + 1) * factors[0] % prime}, "v", 8))
		}
		for i := range 100 {
			x, _, _ = agree(t, "shrinking", x, cut(api.Key{Off: (i + 1) * factors[1] % prime}, 8))
		}
		holds(t, "nothing left", x, api.OK, nil)
	}
}

// TestP32P33Versions writes as many versions of one key as a run may have, and deletes the last one.
func TestP32P33Versions(t *testing.T) {
	k := api.Key{Off: 1}
	x := tree.New()
	for i := range 400 {
		x, _, _ = agree(t, "version", x, put(k, fmt.Sprint(i), 1+i))
	}
	holds(t, "400 versions", x, api.OK, versions(400))
	refusal(t, "400 versions", x, put(k, "x", 401), api.ErrFull)
	agree(t, "400 versions", x, put(k, "x", 400))
	agree(t, "400 versions", x, cut(k, 401))
	x, _, _ = agree(t, "400 versions", x, cut(k, 400))
	agree(t, "399 versions", x, put(k, "x", 401))
}

// refusal fails the test unless a call of a tree returns only this error.
func refusal(t *testing.T, name string, x api.Tree, c call, want api.Errno) {
	t.Helper()
	got, err := c.onTree(x)
	refused(t, fmt.Sprint(name, ": ", c.name), got, err, want)
}

// TestP32FullTrees: one record more is possible with 399 but not with 400, whatever the shape of the tree is.
func TestP32FullTrees(t *testing.T) {
	unwritten := api.Key{Pfs: 15}
	for _, x := range []sample{
		{name: "399 records", t: built(fresh(399), false, append(times(49, 8), 7), times(10, 5), []int{5, 5}, []int{2})},
		{name: "399 records in small leaves", t: built(fresh(399), true, append(times(96, 4), 5, 5, 5), append(times(23, 4), 7), []int{4, 4, 4, 4, 4, 4}, []int{6})},
		{name: "400 records", t: built(fresh(400), false, times(50, 8), times(10, 5), []int{5, 5}, []int{2})},
		{name: "400 records in small leaves", t: built(fresh(400), true, times(100, 4), times(25, 4), []int{4, 4, 4, 4, 4, 5}, []int{6})},
		{name: "400 records, no other nodes possible", t: renumbered(built(fresh(400), false, times(50, 8), times(10, 5), []int{5, 5}, []int{2}), 400, func(i int) int { return 399 - 2*i })},
	} {
		l := below(x.t, x.t.Root)
		more := api.OK
		if len(l) == 400 {
			more = api.ErrFull
		}
		for i := 0; i < len(l); i += 19 {
			k := l[i].Key
			_, same, err := agree(t, x.name, x.t, put(k, "new", now))
			if err != api.OK || len(same) != len(l) {
				t.Fatalf("%s: %d records, %d after Put at the same time", x.name, len(same), err)
			}
			if _, _, err := agree(t, x.name, x.t, put(k, "new", now+1)); err != more {
				t.Fatalf("%s: %d after Put of a new version, want %d", x.name, err, more)
			}
			agree(t, x.name, x.t, cut(k, now+1))
			y, _, _ := agree(t, x.name, x.t, cut(k, now))
			agree(t, x.name, y, put(k, "new", now))
			agree(t, x.name, y, put(unwritten, "new", now+1))
		}
		if _, _, err := agree(t, x.name, x.t, put(unwritten, "new", now)); err != more {
			t.Fatalf("%s: %d after Put of a new key, want %d", x.name, err, more)
		}
	}
}

// TestP32P33AllNodesTaken writes to trees in which all 400 numbers of nodes are taken, most of them by free ones.
func TestP32P33AllNodesTaken(t *testing.T) {
	for _, x := range samples(t) {
		if len(x.t.Nodes) > 130 || len(below(x.t, x.t.Root)) > 300 {
			continue
		}
		y := renumbered(x.t, 400, func(i int) int { return 399 - i*3 })
		tid := greatest(below(y, y.Root)) + 1
		for i := range 60 {
			k := api.Key{Obj: i % 3, Off: i * 37 % 23}
			y, _, _ = agree(t, x.name, y, put(k, fmt.Sprint(i), tid+i/6))
			if i%4 == 3 {
				y, _, _ = agree(t, x.name, y, cut(k, tid+i/6))
			}
		}
	}
}

// view is what is visible at a time: values by keys.
type view map[api.Key]string

// TestP32P33ThePastIsImmutable writes and deletes, at last in a tree that is full, and compares what is visible
// at every time before with a copy that was made then.
func TestP32P33ThePastIsImmutable(t *testing.T) {
	for _, seed := range []int{1, 2, 3} {
		x := tree.New()
		views := []view{{}}
		for i := range 900 {
			seed = seed * 48271 % math.MaxInt32
			tid := len(views) - 1
			if seed%5 == 0 || tid == 0 {
				views = append(views, maps.Clone(views[tid]))
				tid++
			}
			x = step(t, x, views[tid], seed/5, tid)
			if i%45 == 44 {
				visible(t, x, views)
			}
		}
	}
}

// step writes or deletes one of 30 keys, in a tree and in a view.
func step(t *testing.T, x api.Tree, v view, n, tid int) api.Tree {
	t.Helper()
	k, val := api.Key{Pfs: n % 3, Obj: n / 3 % 2, Off: n / 6 % 5}, fmt.Sprint(n%1000)
	c := put(k, val, tid)
	if n%7 > 4 {
		c = cut(k, tid)
	}
	y, _, err := agree(t, fmt.Sprint("time ", tid), x, c)
	if err != api.OK {
		return x
	}
	if n%7 > 4 {
		delete(v, k)
	} else {
		v[k] = val
	}
	return y
}

// visible fails the test unless in a tree the views are visible, each at its time.
func visible(t *testing.T, x api.Tree, views []view) {
	t.Helper()
	for tid, want := range views {
		got := view{}
		l, err := past.Range(x, api.Key{}, api.Key{Pfs: 15}, tid)
		for _, e := range l {
			got[e.Key] = e.Val
		}
		if err != api.OK || len(l) != len(got) || !maps.Equal(got, want) {
			t.Fatalf("at %d of %d %v is visible, %d, want %v", tid, len(views), l, err, want)
		}
	}
}

func TestP32P33TimesThatHavePassed(t *testing.T) {
	for _, x := range samples(t) {
		l := below(x.t, x.t.Root)
		for _, k := range append(keys(l, 5), api.Key{Off: 1}) {
			for _, tid := range []int{math.MinInt, math.MinInt32, -1, 0, math.MaxInt32 + 1, math.MaxInt} {
				refusal(t, x.name, x.t, put(k, "x", tid), api.ErrTid)
				refusal(t, x.name, x.t, cut(k, tid), api.ErrTid)
			}
			for tid := 1; tid < greatest(l); tid += 6 {
				refusal(t, x.name, x.t, put(k, "x", tid), api.ErrTid)
				refusal(t, x.name, x.t, cut(k, tid), api.ErrTid)
			}
			if tid := greatest(l) - 1; tid > 0 {
				refusal(t, x.name, x.t, put(k, "x", tid), api.ErrTid)
				refusal(t, x.name, x.t, cut(k, tid), api.ErrTid)
			}
		}
	}
}

// TestP32P33TheFirstError: of several errors the one that run.Put or run.Cut lists first is returned.
func TestP32P33TheFirstError(t *testing.T) {
	long := strings.Repeat("x", 41)
	x := built(history(44), false, []int{4, 8, 5, 4, 7, 6, 4, 6}, []int{8})
	full := built(history(400), false, times(50, 8), times(10, 5), []int{5, 5}, []int{2})
	first, none := api.Key{Off: 1}, api.Key{Obj: 9}
	for _, y := range []struct {
		t api.Tree
		call
		want api.Errno
	}{
		{x, put(first, long, now), api.ErrLarge},
		{x, put(none, strings.Repeat("x", 100000), now+1), api.ErrLarge},
		{x, put(none, long, 0), api.ErrTid},
		{x, put(none, long, 1), api.ErrLarge},
		{x, put(none, "x", now-1), api.ErrTid},
		{full, put(none, long, now), api.ErrLarge},
		{full, put(none, "x", now-1), api.ErrTid},
		{full, put(none, "x", now), api.ErrFull},
		{x, cut(none, 0), api.ErrTid},
		{x, cut(none, now-1), api.ErrTid},
		{x, cut(none, now), api.ErrNone},
		{tree.New(), cut(none, 1), api.ErrNone},
		{tree.New(), cut(none, 0), api.ErrTid},
		{tree.New(), put(none, "x", 0), api.ErrTid},
	} {
		refusal(t, "several errors", y.t, y.call, y.want)
	}
	for _, k := range []api.Key{
		{Pfs: -1}, {Pfs: 16}, {Pfs: math.MinInt}, {Pfs: math.MaxInt}, {Obj: -1}, {Obj: 1<<20 + 1}, {Obj: math.MaxInt},
		{Off: -1}, {Off: 1<<30 + 1}, {Off: math.MinInt}, {Off: math.MaxInt},
	} {
		for _, y := range []api.Tree{tree.New(), x, full} {
			for _, tid := range []int{math.MinInt, 0, 1, now, now + 1} {
				refusal(t, "invalid key", y, put(k, "x", tid), api.ErrArg)
				refusal(t, "invalid key", y, put(k, long, tid), api.ErrArg)
				refusal(t, "invalid key", y, cut(k, tid), api.ErrArg)
			}
		}
	}
}

// invalids returns what past.Check rejects, with its error.
func invalids() []sample {
	leaf := func(e ...api.Elem) api.Tree { return api.Tree{Nodes: []api.Node{{Kind: api.Leaf, Elems: e}}} }
	wrong := func(f func(x *api.Tree)) api.Tree {
		x := built(history(9), false, []int{4, 5}, []int{2})
		f(&x)
		return x
	}
	overlap := versions(60)
	overlap[30].Gone = 0
	endless := fresh(512)
	endless[1].Key, endless[1].Made = endless[0].Key, now+1
	unfit := built(fresh(512), false, times(64, 8), times(8, 8), []int{8})
	unfit.Nodes[0].Kind = api.Free
	return []sample{
		{"no nodes", api.Tree{}, api.ErrForm},
		{"401 nodes", api.Tree{Nodes: make([]api.Node, 401)}, api.ErrLarge},
		{"free nodes", api.Tree{Nodes: make([]api.Node, 400)}, api.ErrForm},
		{"root -1", api.Tree{Root: -1, Nodes: tree.New().Nodes}, api.ErrForm},
		{"root does not exist", api.Tree{Root: 1, Nodes: tree.New().Nodes}, api.ErrForm},
		{"unknown kind", api.Tree{Nodes: []api.Node{{Kind: 3}}}, api.ErrForm},
		{"nine records", leaf(make([]api.Elem, 9)...), api.ErrLarge},
		{"invalid key", leaf(api.Elem{Key: api.Key{Off: -1}, Made: 1}), api.ErrArg},
		{"invalid time", leaf(api.Elem{}), api.ErrTid},
		{"value too long", leaf(api.Elem{Made: 1, Val: strings.Repeat("x", 41)}), api.ErrLarge},
		{"records not in order", leaf(history(2)[1], history(2)[0]), api.ErrForm},
		{"wrong time", wrong(func(x *api.Tree) { x.Nodes[2].Tids[0]++ }), api.ErrForm},
		{"root is its child", wrong(func(x *api.Tree) { x.Nodes[2].Kids[0] = 2 }), api.ErrForm},
		{"leaf too small", built(history(7), false, []int{3, 4}, []int{2}), api.ErrForm},
		{"too many records, one node invalid", unfit, api.ErrForm},
		{"one version not deleted", built(overlap, false, times(12, 5), []int{4, 4, 4}, []int{3}), api.ErrForm},
		{"deleted after the next was created", leaf(api.Elem{Made: 1, Gone: 4}, api.Elem{Made: 3}), api.ErrForm},
		{"401 records", built(fresh(401), false, append(times(49, 8), 5, 4), append(times(5, 8), 6, 5), []int{7}), api.ErrLarge},
		{"512 records", built(fresh(512), true, times(64, 8), times(8, 8), []int{8}), api.ErrLarge},
		{"512 records, one not deleted before the next", built(endless, false, times(64, 8), times(8, 8), []int{8}), api.ErrLarge},
	}
}

func TestP32P33InvalidTreesFirst(t *testing.T) {
	for _, x := range invalids() {
		if err := past.Check(x.t); err != x.want {
			t.Fatalf("%s: past.Check = %d, want %d", x.name, err, x.want)
		}
		for _, k := range []api.Key{{}, {Off: 1}, {Off: 15}, {Obj: 9}, {Pfs: 16}, {Off: -1}} {
			for _, tid := range []int{math.MinInt, 0, 1, now, now + 30, math.MaxInt} {
				refusal(t, x.name, x.t, put(k, "x", tid), x.want)
				refusal(t, x.name, x.t, put(k, strings.Repeat("x", 41), tid), x.want)
				refusal(t, x.name, x.t, cut(k, tid), x.want)
			}
		}
	}
}

// same compares trees field by field, with what lies in the spare capacity of their slices.
func same(x, y api.Tree) bool {
	return x.Root == y.Root && slices.EqualFunc(x.Nodes[:cap(x.Nodes)], y.Nodes[:cap(y.Nodes)], func(m, n api.Node) bool {
		return m.Kind == n.Kind &&
			slices.Equal(m.Elems[:cap(m.Elems)], n.Elems[:cap(n.Elems)]) &&
			slices.Equal(m.Kids[:cap(m.Kids)], n.Kids[:cap(n.Kids)]) &&
			slices.Equal(m.Seps[:cap(m.Seps)], n.Seps[:cap(n.Seps)]) &&
			slices.Equal(m.Tids[:cap(m.Tids)], n.Tids[:cap(n.Tids)])
	})
}

// spoil writes over all memory of a tree. What has been written over before is found again.
func spoil(t *testing.T, name string, x api.Tree) {
	t.Helper()
	x.Nodes = x.Nodes[:cap(x.Nodes)]
	for i := range x.Nodes {
		n := &x.Nodes[i]
		if n.Kind == -7 {
			t.Fatalf("%s: nodes share memory", name)
		}
		n.Kind = -7
		fill(t, name, n.Elems, api.Elem{Made: -7})
		fill(t, name, n.Kids, -7)
		fill(t, name, n.Seps, api.Spot{Made: -7})
		fill(t, name, n.Tids, -7)
	}
}

// fill writes over a slice and its spare capacity.
func fill[E comparable](t *testing.T, name string, l []E, mark E) {
	t.Helper()
	l = l[:cap(l)]
	if slices.Contains(l, mark) {
		t.Fatalf("%s: slices share memory", name)
	}
	for i := range l {
		l[i] = mark
	}
}

// TestP2TreesAreNotModifiedNorShared includes calls of Put that change nothing: their result is new memory, too.
func TestP2TreesAreNotModifiedNorShared(t *testing.T) {
	for _, x := range samples(t) {
		l := below(x.t, x.t.Root)
		tid := max(greatest(l), 1)
		var calls []call
		for _, k := range keys(l, 8) {
			calls = append(calls, put(k, "new", tid), put(k, "new", tid+1), cut(k, tid), cut(k, tid+1), cut(k, 0))
		}
		for i, e := range l {
			if e.Made == tid && i%5 == 0 {
				calls = append(calls, put(e.Key, e.Val, tid))
			}
		}
		for _, c := range calls {
			arg := cloned(x.t)
			first, _ := c.onTree(arg)
			second, _ := c.onTree(arg)
			name := fmt.Sprint(x.name, ": ", c.name)
			spoil(t, name, first)
			spoil(t, name, second)
			if !same(arg, cloned(x.t)) {
				t.Fatalf("%s modified the tree, or its result shares memory with it", name)
			}
		}
	}
}
