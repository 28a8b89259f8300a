package find_test

import (
	"fmt"
	"math"
	"slices"
	"strings"
	"testing"

	"annalist/api"
	"annalist/find"
	"annalist/key"
	"annalist/tree"
)

// record returns record n of all trees. Each key has two records; many are deleted, some of them long after all others
// were created, so that times do not follow the order of the records.
func record(n int) api.Elem {
	made := 2 + n*7%50
	if n%2 == 1 {
		made = 60 + n*11%50
	}
	gone := 0
	if n%3 > 0 {
		gone = made + 1 + n*13%70
	}
	return api.Elem{Key: api.Key{Pfs: n / 60, Obj: n / 20 % 3, Off: 1 + n/2%10*2}, Made: made, Gone: gone, Val: strings.Repeat("v", n%41)}
}

// spot returns the spot of a record.
func spot(e api.Elem) api.Spot {
	return api.Spot{Key: e.Key, Made: e.Made}
}

// last returns the last time at which something happened to a record.
func last(e api.Elem) int {
	return max(e.Made, e.Gone)
}

// separator is a way to choose what lies between two subtrees.
type separator func(left, right []api.Elem) api.Spot

// high is the greatest separator that there may be.
func high(left, right []api.Elem) api.Spot {
	return spot(right[0])
}

// low is the least separator that there may be.
func low(left, right []api.Elem) api.Spot {
	s := spot(left[len(left)-1])
	s.Made++
	return s
}

// built is a tree of leaves with these numbers of records and of levels of inner nodes with these numbers of children,
// from the lowest level to the root.
func built(sep separator, leaves []int, levels ...[]int) api.Tree {
	var t api.Tree
	var level []int
	records := 0
	for _, n := range leaves {
		x := api.Node{Kind: api.Leaf}
		for range n {
			x.Elems = append(x.Elems, record(records))
			records++
		}
		level = append(level, len(t.Nodes))
		t.Nodes = append(t.Nodes, x)
	}
	for _, sizes := range levels {
		var above []int
		for _, n := range sizes {
			x := api.Node{Kind: api.Inner, Kids: level[:n]}
			for i, kid := range x.Kids {
				l := below(t, kid)
				if i > 0 {
					x.Seps = append(x.Seps, sep(below(t, x.Kids[i-1]), l))
				}
				x.Tids = append(x.Tids, greatest(l))
			}
			level = level[n:]
			above = append(above, len(t.Nodes))
			t.Nodes = append(t.Nodes, x)
		}
		level = above
	}
	t.Root = level[0]
	return cloned(t)
}

// below returns the records in the subtree of node i.
func below(t api.Tree, i int) []api.Elem {
	l := slices.Clone(t.Nodes[i].Elems)
	for _, kid := range t.Nodes[i].Kids {
		l = append(l, below(t, kid)...)
	}
	return l
}

// greatest returns the greatest time of records, or 0.
func greatest(l []api.Elem) int {
	t := 0
	for _, e := range l {
		t = max(t, last(e))
	}
	return t
}

// cloned copies a tree into slices with capacity to spare.
func cloned(t api.Tree) api.Tree {
	c := api.Tree{Root: t.Root, Nodes: make([]api.Node, 0, len(t.Nodes)+2)}
	for _, n := range t.Nodes {
		c.Nodes = append(c.Nodes, api.Node{
			Kind:  n.Kind,
			Elems: append(make([]api.Elem, 0, 12), n.Elems...),
			Kids:  append(make([]int, 0, 12), n.Kids...),
			Seps:  append(make([]api.Spot, 0, 12), n.Seps...),
			Tids:  append(make([]int, 0, 12), n.Tids...),
		})
	}
	return c
}

// renumbered is a tree of size nodes in which node i has the number to(i), and the others are free.
func renumbered(t api.Tree, size int, to func(i int) int) api.Tree {
	r := api.Tree{Root: to(t.Root), Nodes: make([]api.Node, size)}
	for i, n := range cloned(t).Nodes {
		for j, kid := range n.Kids {
			n.Kids[j] = to(kid)
		}
		r.Nodes[to(i)] = n
	}
	return r
}

// times repeats a number.
func times(n, x int) []int {
	return slices.Repeat([]int{x}, n)
}

// sample is a tree with its name.
type sample struct {
	name string
	t    api.Tree
}

// samples returns trees of several shapes and depths.
func samples(t *testing.T) []sample {
	var l []sample
	for i, sep := range []separator{high, low} {
		for _, x := range []sample{
			{"no records", built(sep, []int{0})},
			{"one record", built(sep, []int{1})},
			{"eight records", built(sep, []int{8})},
			{"two leaves", built(sep, []int{4, 4}, []int{2})},
			{"three leaves", built(sep, []int{4, 8, 5}, []int{3})},
			{"two inner nodes", built(sep, []int{4, 5, 6, 7, 8, 4, 4, 8}, []int{4, 4}, []int{2})},
			{"inner nodes of several sizes", built(sep, times(17, 5), []int{4, 8, 5}, []int{3})},
			{"four levels", built(sep, times(34, 4), []int{4, 5, 4, 4, 5, 4, 4, 4}, []int{4, 4}, []int{2})},
			{"more records than a run", built(sep, times(64, 8), times(8, 8), []int{8})},
		} {
			n := len(x.t.Nodes)
			l = append(l,
				sample{fmt.Sprint(x.name, ", separators ", i), x.t},
				sample{fmt.Sprint(x.name, ", separators ", i, ", between free nodes"), renumbered(x.t, 2*n+1, func(i int) int { return 2*(n-i) - 1 })})
		}
	}
	for _, x := range l {
		if err := tree.Check(x.t); err != api.OK {
			t.Fatalf("%s: the sample is no tree: %d", x.name, err)
		}
	}
	return l
}

// spots returns the spots of records and those beside them, and spots that no record can have.
func spots(l []api.Elem) []api.Spot {
	s := []api.Spot{
		{}, {Made: 1}, {Made: -1}, {Key: api.Key{Pfs: -1}, Made: 5}, {Key: api.Key{Pfs: math.MinInt, Obj: 1, Off: 1}, Made: 5},
		{Key: api.Key{Pfs: 15, Obj: 1 << 20, Off: 1 << 30}, Made: math.MaxInt32},
		{Key: api.Key{Pfs: math.MaxInt, Obj: math.MaxInt, Off: math.MaxInt}, Made: math.MaxInt},
		{Key: api.Key{Obj: 1, Off: -1}, Made: 5}, {Key: api.Key{Obj: 1, Off: math.MaxInt}, Made: 5}, {Key: api.Key{Pfs: 1, Obj: -1}, Made: 5},
	}
	for _, e := range l {
		for _, off := range []int{-1, 0, 1} {
			for _, made := range []int{0, e.Made - 1, e.Made, e.Made + 1, math.MaxInt} {
				s = append(s, api.Spot{Key: api.Key{Pfs: e.Key.Pfs, Obj: e.Key.Obj, Off: e.Key.Off + off}, Made: made})
			}
		}
	}
	return s
}

// some returns the first and last ones of many records, and some between them: with leaves of 4, 5 or 8 records,
// these are at their ends too.
func some(l []api.Elem) []api.Elem {
	if len(l) <= 50 {
		return l
	}
	var r []api.Elem
	for i, e := range l {
		if i%40 < 2 || i < 9 || i > len(l)-6 {
			r = append(r, e)
		}
	}
	return r
}

// invalid is what is no tree, with the error of tree.Check.
type invalid struct {
	name string
	t    api.Tree
	want api.Errno
}

// invalids returns what is no tree.
func invalids() []invalid {
	sized := func(n int) api.Tree { return api.Tree{Nodes: make([]api.Node, n)} }
	leaf := func(e ...api.Elem) api.Tree { return api.Tree{Nodes: []api.Node{{Kind: api.Leaf, Elems: e}}} }
	wrong := built(high, []int{4, 4}, []int{2})
	wrong.Nodes[2].Tids[0]++
	ring := built(high, []int{4, 4}, []int{2})
	ring.Nodes[2].Kids[0] = 2
	return []invalid{
		{"no nodes", api.Tree{}, api.ErrForm},
		{"401 nodes", sized(401), api.ErrLarge},
		{"free nodes", sized(400), api.ErrForm},
		{"root -1", api.Tree{Root: -1, Nodes: tree.New().Nodes}, api.ErrForm},
		{"root does not exist", api.Tree{Root: 1, Nodes: tree.New().Nodes}, api.ErrForm},
		{"unknown kind", api.Tree{Nodes: []api.Node{{Kind: 3}}}, api.ErrForm},
		{"nine records", leaf(make([]api.Elem, 9)...), api.ErrLarge},
		{"invalid key", leaf(api.Elem{Key: api.Key{Off: -1}, Made: 1}), api.ErrArg},
		{"invalid time", leaf(api.Elem{}), api.ErrTid},
		{"records not in order", leaf(record(1), record(0)), api.ErrForm},
		{"wrong time", wrong, api.ErrForm},
		{"root is its child", ring, api.ErrForm},
	}
}

// spotted tries Spot.
func spotted(t *testing.T, name string, x api.Tree, s api.Spot, want api.Elem, wantErr api.Errno) {
	t.Helper()
	if got, err := find.Spot(x, s); got != want || err != wantErr {
		t.Fatalf("%s: Spot of %v = %v, %d, want %v, %d", name, s, got, err, want, wantErr)
	}
}

func TestP25SpotOfEveryRecord(t *testing.T) {
	for _, x := range samples(t) {
		for _, e := range below(x.t, x.t.Root) {
			spotted(t, x.name, x.t, spot(e), e, api.OK)
		}
	}
}

func TestP25SpotBesideEveryRecord(t *testing.T) {
	for _, x := range samples(t) {
		l := below(x.t, x.t.Root)
		for _, s := range spots(some(l)) {
			i := slices.IndexFunc(l, func(e api.Elem) bool { return spot(e) == s })
			if i < 0 {
				spotted(t, x.name, x.t, s, api.Elem{}, api.ErrNone)
			} else {
				spotted(t, x.name, x.t, s, l[i], api.OK)
			}
		}
	}
}

func TestP25SpotOfAnInvalidTree(t *testing.T) {
	for _, x := range invalids() {
		for _, s := range spots([]api.Elem{record(0)}) {
			spotted(t, x.name, x.t, s, api.Elem{}, x.want)
		}
	}
}

// listed tries From.
func listed(t *testing.T, name string, x api.Tree, s api.Spot, n int, want []api.Elem, wantErr api.Errno) {
	t.Helper()
	if got, err := find.From(x, s, n); !slices.Equal(got, want) || err != wantErr {
		t.Fatalf("%s: From %v, %d = %v, %d, want %v, %d", name, s, n, got, err, want, wantErr)
	}
}

func TestP25From(t *testing.T) {
	for _, x := range samples(t) {
		l := below(x.t, x.t.Root)
		for _, s := range spots(some(l)) {
			var want []api.Elem
			for _, e := range l {
				if key.CmpSpot(spot(e), s) >= 0 {
					want = append(want, e)
				}
			}
			for _, n := range []int{0, 1, 2, 9, 20, len(want) - 1, len(want), len(want) + 1, math.MaxInt32, math.MaxInt} {
				if n >= 0 {
					listed(t, x.name, x.t, s, n, want[:min(n, len(want))], api.OK)
				}
			}
		}
		for _, s := range spots([]api.Elem{record(0), record(20)}) {
			for _, n := range []int{-1, -2, math.MinInt32, math.MinInt} {
				listed(t, x.name, x.t, s, n, nil, api.ErrArg)
			}
		}
	}
}

func TestP25FromOfAnInvalidTree(t *testing.T) {
	for _, x := range invalids() {
		for _, n := range []int{-1, 0, 1, 10, math.MinInt, math.MaxInt} {
			listed(t, x.name, x.t, api.Spot{}, n, nil, x.want)
		}
	}
}

// scanned tries Since.
func scanned(t *testing.T, name string, x api.Tree, tid int, want []api.Elem, wantNodes int, wantErr api.Errno) {
	t.Helper()
	got, nodes, err := find.Since(x, tid)
	if !slices.Equal(got, want) || nodes != wantNodes || err != wantErr {
		t.Fatalf("%s: Since %d = %v, %d, %d, want %v, %d, %d", name, tid, got, nodes, err, want, wantNodes, wantErr)
	}
}

func TestP26Since(t *testing.T) {
	for _, x := range samples(t) {
		l := below(x.t, x.t.Root)
		tids := []int{math.MinInt, math.MinInt32, -2, math.MaxInt32, math.MaxInt}
		for tid := -1; tid <= greatest(l)+2; tid++ {
			tids = append(tids, tid)
		}
		for _, tid := range tids {
			var want []api.Elem
			for _, e := range l {
				if e.Made > tid || e.Gone > 0 && e.Gone > tid {
					want = append(want, e)
				}
			}
			nodes := 0
			for i := range x.t.Nodes {
				if slices.ContainsFunc(below(x.t, i), func(e api.Elem) bool { return last(e) > tid }) {
					nodes++
				}
			}
			scanned(t, x.name, x.t, tid, want, nodes, api.OK)
		}
	}
}

func TestP26SinceTheLastTime(t *testing.T) {
	for _, x := range samples(t) {
		l := below(x.t, x.t.Root)
		tid := greatest(l)
		scanned(t, x.name, x.t, tid, nil, 0, api.OK)
		if tid > 0 {
			if got, nodes, err := find.Since(x.t, tid-1); len(got) == 0 || nodes == 0 || err != api.OK {
				t.Errorf("%s: Since %d = %v, %d, %d, want some", x.name, tid-1, got, nodes, err)
			}
		}
	}
}

func TestP26SinceOfTwoLeaves(t *testing.T) {
	leaf := func(off, made, gone int) api.Node {
		n := api.Node{Kind: api.Leaf}
		for i := range 4 {
			n.Elems = append(n.Elems, api.Elem{Key: api.Key{Off: off + i}, Made: made + i})
		}
		n.Elems[1].Gone = gone
		return n
	}
	x := api.Tree{Root: 1, Nodes: []api.Node{
		leaf(0, 1, 9),
		{Kind: api.Inner, Kids: []int{0, 2}, Seps: []api.Spot{{Key: api.Key{Off: 7}, Made: 1}}, Tids: []int{9, 13}},
		leaf(10, 10, 12),
	}}
	l, r := x.Nodes[0].Elems, x.Nodes[2].Elems
	scanned(t, "two leaves", x, 13, nil, 0, api.OK)
	scanned(t, "two leaves", x, 12, r[3:], 2, api.OK)
	scanned(t, "two leaves", x, 11, r[1:], 2, api.OK)
	scanned(t, "two leaves", x, 9, r, 2, api.OK)
	scanned(t, "two leaves", x, 8, append([]api.Elem{l[1]}, r...), 3, api.OK)
	scanned(t, "two leaves", x, 3, append([]api.Elem{l[1], l[3]}, r...), 3, api.OK)
	scanned(t, "two leaves", x, 0, append(slices.Clone(l), r...), 3, api.OK)
	scanned(t, "two leaves", x, -1, append(slices.Clone(l), r...), 3, api.OK)
}

// TestP26SinceOfNoTimes: a leaf without records contains no time, whatever tid is.
func TestP26SinceOfNoTimes(t *testing.T) {
	for _, tid := range []int{math.MinInt, -1, 0, 1, math.MaxInt} {
		scanned(t, "no records", tree.New(), tid, nil, 0, api.OK)
	}
}

func TestP26SinceOfAnInvalidTree(t *testing.T) {
	for _, x := range invalids() {
		for _, tid := range []int{-1, 0, 1, math.MinInt, math.MaxInt} {
			scanned(t, x.name, x.t, tid, nil, 0, x.want)
		}
	}
}

// same compares trees field by field, with what lies in the spare capacity of their slices.
func same(x, y api.Tree) bool {
	return x.Root == y.Root && slices.EqualFunc(x.Nodes[:cap(x.Nodes)], y.Nodes[:cap(y.Nodes)], func(m, n api.Node) bool {
		return m.Kind == n.Kind &&
			slices.Equal(m.Elems[:cap(m.Elems)], n.Elems[:cap(n.Elems)]) &&
			slices.Equal(m.Kids[:cap(m.Kids)], n.Kids[:cap(n.Kids)]) &&
			slices.Equal(m.Seps[:cap(m.Seps)], n.Seps[:cap(n.Seps)]) &&
			slices.Equal(m.Tids[:cap(m.Tids)], n.Tids[:cap(n.Tids)])
	})
}

func TestP2TreesAreNotModified(t *testing.T) {
	for _, x := range samples(t) {
		got, want := cloned(x.t), cloned(x.t)
		for i := range 50 {
			find.Spot(got, spot(record(i)))
			find.From(got, spot(record(i)), i)
			find.Since(got, i*3)
		}
		if !same(got, want) {
			t.Errorf("%s was modified", x.name)
		}
	}
}

func TestP2ResultsShareNothing(t *testing.T) {
	mark := api.Elem{Made: -7}
	for _, x := range samples(t) {
		for n := range 20 {
			arg := cloned(x.t)
			results := make([][]api.Elem, 4)
			results[0], _ = find.From(arg, spot(record(n)), n)
			results[1], _ = find.From(arg, spot(record(n)), n)
			results[2], _, _ = find.Since(arg, n)
			results[3], _, _ = find.Since(arg, n)
			for i, l := range results {
				l = l[:cap(l)]
				if slices.Contains(l, mark) {
					t.Fatalf("%s: result %d shares memory with one before it", x.name, i)
				}
				for j := range l {
					l[j] = mark
				}
			}
			if !same(arg, cloned(x.t)) {
				t.Fatalf("%s: a result shares memory with the tree", x.name)
			}
		}
	}
}
