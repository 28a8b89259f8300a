package shrink_test

import (
	"fmt"
	"math"
	"slices"
	"strings"
	"testing"

	"annalist/api"
	"annalist/grow"
	"annalist/key"
	"annalist/shrink"
	"annalist/tree"
)

// record returns record n of all samples. Some keys have several records, and times do not follow their order.
func record(n int) api.Elem {
	made := 2 + n*7%50
	if n%2 == 1 {
		made = 60 + n*11%50
	}
	gone := 0
	if n%3 > 0 {
		gone = made + 1 + n*13%70
	}
	return api.Elem{Key: api.Key{Pfs: n / 200, Obj: n / 20 % 10, Off: 1 + n/2%10*2}, Made: made, Gone: gone, Val: strings.Repeat("v", n%41)}
}

// spot returns the spot of a record.
func spot(e api.Elem) api.Spot {
	return api.Spot{Key: e.Key, Made: e.Made}
}

// built is a tree of leaves with these numbers of records and of levels of inner nodes with these numbers of children,
// from the lowest level to the root. A separator is the first spot after it or, if low, the least that there may be.
func built(low bool, leaves []int, levels ...[]int) api.Tree {
	var t api.Tree
	var level []int
	count := 0
	for _, n := range leaves {
		x := api.Node{Kind: api.Leaf}
		for range n {
			x.Elems = append(x.Elems, record(count))
			count++
		}
		level = append(level, len(t.Nodes))
		t.Nodes = append(t.Nodes, x)
	}
	for _, sizes := range levels {
		var above []int
		for _, n := range sizes {
			above = append(above, len(t.Nodes))
			t.Nodes = append(t.Nodes, over(t, level[:n], low))
			level = level[n:]
		}
		level = above
	}
	t.Root = level[0]
	return cloned(t)
}

// over is an inner node with these children.
func over(t api.Tree, kids []int, low bool) api.Node {
	x := api.Node{Kind: api.Inner, Kids: kids}
	for i, kid := range kids {
		l := below(t, kid)
		if i > 0 && low {
			left := below(t, kids[i-1])
			s := spot(left[len(left)-1])
			s.Made++
			x.Seps = append(x.Seps, s)
		} else if i > 0 {
			x.Seps = append(x.Seps, spot(l[0]))
		}
		x.Tids = append(x.Tids, greatest(l))
	}
	return x
}

// below returns the records in the subtree of node i.
func below(t api.Tree, i int) []api.Elem {
	l := slices.Clone(t.Nodes[i].Elems)
	for _, kid := range t.Nodes[i].Kids {
		l = append(l, below(t, kid)...)
	}
	return l
}

// greatest returns the greatest time of records.
func greatest(l []api.Elem) int {
	t := 0
	for _, e := range l {
		t = max(t, e.Made, e.Gone)
	}
	return t
}

// cloned copies a tree into slices with capacity to spare.
func cloned(t api.Tree) api.Tree {
	c := api.Tree{Root: t.Root, Nodes: make([]api.Node, 0, len(t.Nodes)+2)}
	for _, n := range t.Nodes {
		c.Nodes = append(c.Nodes, api.Node{
			Kind:  n.Kind,
			Elems: append(make([]api.Elem, 0, 12), n.Elems...),
			Kids:  append(make([]int, 0, 12), n.Kids...),
			Seps:  append(make([]api.Spot, 0, 12), n.Seps...),
			Tids:  append(make([]int, 0, 12), n.Tids...),
		})
	}
	return c
}

// renumbered is a tree of size nodes in which node i has the number to(i), and the others are free.
func renumbered(t api.Tree, size int, to func(i int) int) api.Tree {
	r := api.Tree{Root: to(t.Root), Nodes: make([]api.Node, size)}
	for i, n := range cloned(t).Nodes {
		for j, kid := range n.Kids {
			n.Kids[j] = to(kid)
		}
		r.Nodes[to(i)] = n
	}
	return r
}

// times repeats a number.
func times(n, x int) []int {
	return slices.Repeat([]int{x}, n)
}

// sample is a tree with its name.
type sample struct {
	name string
	t    api.Tree
}

// samples returns trees of several shapes and depths, in which nodes have the least number of records or children
// beside neighbours that have as few, some more, or all that they may have.
func samples(t *testing.T) []sample {
	var l []sample
	for _, low := range []bool{false, true} {
		for _, x := range []sample{
			{"one record", built(low, []int{1})},
			{"two records", built(low, []int{2})},
			{"eight records", built(low, []int{8})},
			{"two leaves", built(low, []int{4, 4}, []int{2})},
			{"two leaves, the second one larger", built(low, []int{4, 5}, []int{2})},
			{"two leaves, the second one full", built(low, []int{4, 8}, []int{2})},
			{"two leaves, the first one larger", built(low, []int{5, 4}, []int{2})},
			{"two leaves, the first one full", built(low, []int{8, 4}, []int{2})},
			{"three leaves", built(low, []int{4, 4, 4}, []int{3})},
			{"three leaves, the middle one full", built(low, []int{4, 8, 4}, []int{3})},
			{"three leaves, the middle one small", built(low, []int{6, 4, 5}, []int{3})},
			{"eight leaves", built(low, []int{4, 4, 8, 4, 6, 5, 4, 7}, []int{8})},
			{"two inner nodes", built(low, times(8, 4), []int{4, 4}, []int{2})},
			{"two inner nodes, the second one larger", built(low, times(9, 4), []int{4, 5}, []int{2})},
			{"two inner nodes, the second one full", built(low, times(12, 4), []int{4, 8}, []int{2})},
			{"two inner nodes, the first one larger", built(low, times(9, 4), []int{5, 4}, []int{2})},
			{"two inner nodes, the first one full", built(low, times(12, 4), []int{8, 4}, []int{2})},
			{"three inner nodes", built(low, times(12, 4), []int{4, 4, 4}, []int{3})},
			{"three inner nodes, leaves of all sizes", built(low, []int{4, 5, 4, 6, 4, 7, 4, 8, 8, 4, 4, 4, 4}, []int{4, 5, 4}, []int{3})},
			{"inner nodes of several sizes", built(low, times(17, 4), []int{4, 8, 5}, []int{3})},
			{"four levels", built(low, times(32, 4), times(8, 4), []int{4, 4}, []int{2})},
			{"four levels, one node full on each", built(low, append(times(39, 4), 8), []int{4, 4, 4, 4, 4, 4, 4, 8, 4}, []int{4, 5}, []int{2})},
		} {
			n := len(x.t.Nodes)
			l = append(l,
				sample{fmt.Sprint(x.name, ", low separators: ", low), x.t},
				sample{fmt.Sprint(x.name, ", low separators: ", low, ", between free nodes"), renumbered(x.t, 2*n+1, func(i int) int { return 2*(n-i) - 1 })})
		}
	}
	for _, x := range l {
		mustBeTree(t, x)
	}
	return l
}

// mustBeTree fails the test if a sample is wrong.
func mustBeTree(t *testing.T, x sample) {
	t.Helper()
	if err := tree.Check(x.t); err != api.OK {
		t.Fatalf("%s: the sample is no tree: %d", x.name, err)
	}
}

// without returns records but the one with this spot.
func without(l []api.Elem, s api.Spot) []api.Elem {
	return slices.DeleteFunc(slices.Clone(l), func(e api.Elem) bool { return spot(e) == s })
}

// holds fails the test unless x is a tree of these records.
func holds(t *testing.T, name string, x api.Tree, err api.Errno, want []api.Elem) {
	t.Helper()
	if err != api.OK {
		t.Fatalf("%s: %d", name, err)
	}
	if got, err := tree.All(x); !slices.Equal(got, want) || err != api.OK {
		t.Fatalf("%s: All = %v, %d, want %v, of %v", name, got, err, want, x)
	}
}

// refused fails the test unless there is only this error.
func refused(t *testing.T, name string, got api.Tree, err, want api.Errno) {
	t.Helper()
	if err != want || got.Root != 0 || len(got.Nodes) != 0 {
		t.Fatalf("%s: %v, %d, want no tree and %d", name, got, err, want)
	}
}

// emptied removes all records of a tree in this order, and expects a tree after each removal.
func emptied(t *testing.T, name string, x api.Tree, order func(i, n int) int) api.Tree {
	t.Helper()
	l := below(x, x.Root)
	for left := slices.Clone(l); len(left) > 0; {
		s := spot(left[order(len(l)-len(left), len(left))])
		var err api.Errno
		x, err = shrink.Remove(x, s)
		left = without(left, s)
		holds(t, fmt.Sprint(name, ": Remove ", s), x, err, left)
		depth(t, name, x, len(left))
	}
	return x
}

// depth fails the test if a tree is deeper than one of so many records can be.
func depth(t *testing.T, name string, x api.Tree, n int) {
	t.Helper()
	// The fewest records of a tree with so many levels: two children of the root, four in each other node.
	most := 1
	for fewest := 8; fewest <= n; fewest *= 4 {
		most++
	}
	if got, err := tree.Depth(x); got > most || err != api.OK {
		t.Fatalf("%s: depth %d, %d with %d records, want at most %d", name, got, err, n, most)
	}
}

// orders are ways to choose one of the n records that are left, as number i of those that are removed.
func orders() []func(i, n int) int {
	return []func(i, n int) int{
		func(i, n int) int { return 0 },
		func(i, n int) int { return n - 1 },
		func(i, n int) int { return n / 2 },
		func(i, n int) int { return i % 2 * (n - 1) },
		func(i, n int) int { return i * 7 % n },
		func(i, n int) int { return i * i * 31 % n },
		func(i, n int) int { return (i*1103 + 12345) % 1009 % n },
	}
}

func TestP29RemoveEach(t *testing.T) {
	for _, x := range samples(t) {
		l := below(x.t, x.t.Root)
		for _, e := range l {
			got, err := shrink.Remove(x.t, spot(e))
			holds(t, fmt.Sprint(x.name, ": Remove ", spot(e)), got, err, without(l, spot(e)))
		}
	}
}

func TestP29RemoveAll(t *testing.T) {
	for _, x := range samples(t) {
		for i, order := range orders() {
			name := fmt.Sprint(x.name, ", order ", i)
			y := emptied(t, name, x.t, order)
			if d, err := tree.Depth(y); d != 1 || err != api.OK {
				t.Errorf("%s: Depth = %d, %d, want 1", name, d, err)
			}
		}
	}
}

// inserted is a tree into which n records were inserted in this order.
func inserted(t *testing.T, n, factor int) api.Tree {
	t.Helper()
	x := tree.New()
	for i := range n {
		var err api.Errno
		if x, err = grow.Insert(x, record((i+1)*factor%401)); err != api.OK {
			t.Fatalf("Insert: %d", err)
		}
	}
	return x
}

// TestP29RemoveAllThatWereInserted empties trees of as many records as a run may have.
func TestP29RemoveAllThatWereInserted(t *testing.T) {
	for i, factor := range []int{1, 400, 57} {
		x := inserted(t, 400, factor)
		for j, order := range orders() {
			if j%3 == i {
				emptied(t, fmt.Sprintf("factor %d, order %d", factor, j), x, order)
			}
		}
	}
}

// full returns trees in which few nodes are free, or none; they have more records than a run may have.
func full(t *testing.T) []sample {
	leaves := append(slices.Repeat([]int{8, 4, 4}, 116), 8) // 349
	l := []sample{
		{"400 nodes", built(false, leaves, append(times(39, 8), 8, 8, 8, 8, 5), append(times(4, 8), 8, 4), []int{6})},
		{"400 nodes, low separators", built(true, leaves, append([]int{5}, times(43, 8)...), append([]int{4}, times(5, 8)...), []int{6})},
		{"394 nodes, small", built(true, times(297, 4), append(times(73, 4), 5), append(times(17, 4), 6), append(times(3, 4), 6), []int{4})},
	}
	for _, x := range l {
		if n := len(x.t.Nodes); fmt.Sprint(n) != x.name[:3] {
			t.Fatalf("%s: the sample has %d nodes", x.name, n)
		}
		mustBeTree(t, x)
	}
	return l
}

// TestP29RemoveWhereAllNodesAreTaken removes records from trees that cannot have one more node.
func TestP29RemoveWhereAllNodesAreTaken(t *testing.T) {
	for _, x := range full(t) {
		l := below(x.t, x.t.Root)
		for i := 0; i < len(l); i += 13 {
			got, err := shrink.Remove(x.t, spot(l[i]))
			holds(t, fmt.Sprint(x.name, ": Remove ", spot(l[i])), got, err, without(l, spot(l[i])))
		}
		for i := range 300 {
			s := spot(l[i*31%len(l)])
			var err api.Errno
			x.t, err = shrink.Remove(x.t, s)
			l = without(l, s)
			holds(t, fmt.Sprint(x.name, ": then Remove ", s), x.t, err, l)
		}
	}
}

// TestP29RemoveAndInsert lets a tree grow and shrink many times: it never has more nodes than it needs at its largest.
func TestP29RemoveAndInsert(t *testing.T) {
	x := tree.New()
	var l []api.Elem
	for i := range 1500 {
		e := record(i * 89 % 301)
		there := slices.Contains(l, e)
		var err api.Errno
		if there {
			x, err = shrink.Remove(x, spot(e))
			l = without(l, spot(e))
		} else {
			x, err = grow.Insert(x, e)
			l = append(l, e)
			slices.SortFunc(l, func(a, b api.Elem) int { return key.CmpSpot(spot(a), spot(b)) })
		}
		holds(t, fmt.Sprintf("step %d, %v", i, e), x, err, l)
		depth(t, fmt.Sprint("step ", i), x, len(l))
		if len(x.Nodes) > 120 {
			t.Fatalf("step %d: %d nodes for at most 301 records", i, len(x.Nodes))
		}
	}
}

// TestP29RemoveOfTheLastTime removes one record after the other that has the greatest time.
func TestP29RemoveOfTheLastTime(t *testing.T) {
	for _, x := range samples(t) {
		for l := below(x.t, x.t.Root); len(l) > 0; {
			last := slices.IndexFunc(l, func(e api.Elem) bool { return max(e.Made, e.Gone) == greatest(l) })
			s := spot(l[last])
			var err api.Errno
			x.t, err = shrink.Remove(x.t, s)
			l = without(l, s)
			holds(t, fmt.Sprint(x.name, ": Remove ", s), x.t, err, l)
		}
	}
}

// TestP29RemoveVersions removes records of one key, each of which has the spot of the others but for its time.
func TestP29RemoveVersions(t *testing.T) {
	x := tree.New()
	var l []api.Elem
	for i := range 60 {
		e := api.Elem{Key: api.Key{Obj: 3}, Made: 1 + i, Gone: 2 + i, Val: fmt.Sprint(i)}
		x, _ = grow.Insert(x, e)
		l = append(l, e)
	}
	for i := range 60 {
		s := api.Spot{Key: api.Key{Obj: 3}, Made: 1 + i*23%60}
		var err api.Errno
		x, err = shrink.Remove(x, s)
		l = without(l, s)
		holds(t, fmt.Sprint("Remove ", s), x, err, l)
		got, err := shrink.Remove(x, s)
		refused(t, fmt.Sprint("again Remove ", s), got, err, api.ErrNone)
	}
}

// strangers returns spots of no record: some beside those of records, and some that no record can have.
func strangers(l []api.Elem) []api.Spot {
	s := []api.Spot{
		{}, {Made: 1}, {Made: -1}, {Made: math.MinInt}, {Key: api.Key{Pfs: -1}, Made: 5}, {Key: api.Key{Pfs: math.MinInt, Obj: 1, Off: 1}, Made: 5},
		{Key: api.Key{Pfs: 15, Obj: 1 << 20, Off: 1 << 30}, Made: math.MaxInt32},
		{Key: api.Key{Pfs: math.MaxInt, Obj: math.MaxInt, Off: math.MaxInt}, Made: math.MaxInt},
		{Key: api.Key{Obj: 1, Off: -1}, Made: 5}, {Key: api.Key{Obj: 1, Off: math.MaxInt}, Made: 5},
	}
	for _, e := range l {
		for _, k := range []api.Key{e.Key, {Obj: e.Key.Obj, Off: e.Key.Off - 1}, {Pfs: e.Key.Pfs + 1, Obj: e.Key.Obj, Off: e.Key.Off}} {
			for _, made := range []int{0, e.Made - 1, e.Made, e.Made + 1, -e.Made, e.Made + 1<<32} {
				s = append(s, api.Spot{Key: k, Made: made})
			}
		}
	}
	return slices.DeleteFunc(s, func(s api.Spot) bool {
		return slices.ContainsFunc(l, func(e api.Elem) bool { return spot(e) == s })
	})
}

func TestP29RemoveOfNone(t *testing.T) {
	for _, x := range append(samples(t), sample{"no records", tree.New()}, sample{"no records, free nodes", emptied(t, "two leaves", built(false, []int{4, 4}, []int{2}), orders()[0])}) {
		for _, s := range strangers(below(x.t, x.t.Root)) {
			got, err := shrink.Remove(x.t, s)
			refused(t, fmt.Sprint(x.name, ": Remove ", s), got, err, api.ErrNone)
		}
	}
}

// TestP29RemoveOfASeparator removes spots that separate children but are none of a record, which they may be.
func TestP29RemoveOfASeparator(t *testing.T) {
	for _, x := range samples(t) {
		l := below(x.t, x.t.Root)
		for _, n := range x.t.Nodes {
			for _, s := range n.Seps {
				got, err := shrink.Remove(x.t, s)
				if len(without(l, s)) == len(l) {
					refused(t, x.name, got, err, api.ErrNone)
				} else {
					holds(t, x.name, got, err, without(l, s))
				}
			}
		}
	}
}

func TestP29InvalidTreesFirst(t *testing.T) {
	leaf := func(e ...api.Elem) api.Tree { return api.Tree{Nodes: []api.Node{{Kind: api.Leaf, Elems: e}}} }
	changed := func(f func(x *api.Tree)) api.Tree {
		x := built(false, []int{4, 4}, []int{2})
		f(&x)
		return x
	}
	for _, x := range []struct {
		name string
		t    api.Tree
		want api.Errno
	}{
		{"no nodes", api.Tree{}, api.ErrForm},
		{"401 nodes", api.Tree{Nodes: make([]api.Node, 401)}, api.ErrLarge},
		{"free nodes", api.Tree{Nodes: make([]api.Node, 400)}, api.ErrForm},
		{"root -1", api.Tree{Root: -1, Nodes: tree.New().Nodes}, api.ErrForm},
		{"root does not exist", api.Tree{Root: 1, Nodes: tree.New().Nodes}, api.ErrForm},
		{"unknown kind", api.Tree{Nodes: []api.Node{{Kind: 3}}}, api.ErrForm},
		{"nine records", leaf(make([]api.Elem, 9)...), api.ErrLarge},
		{"invalid key", leaf(api.Elem{Key: api.Key{Off: -1}, Made: 1}), api.ErrArg},
		{"invalid time", leaf(api.Elem{}), api.ErrTid},
		{"value too long", leaf(api.Elem{Made: 1, Val: strings.Repeat("x", 41)}), api.ErrLarge},
		{"records not in order", leaf(record(1), record(0)), api.ErrForm},
		{"wrong time", changed(func(x *api.Tree) { x.Nodes[2].Tids[0]++ }), api.ErrForm},
		{"wrong separator", changed(func(x *api.Tree) { x.Nodes[2].Seps[0].Made++ }), api.ErrForm},
		{"root is its child", changed(func(x *api.Tree) { x.Nodes[2].Kids[0] = 2 }), api.ErrForm},
		{"child does not exist", changed(func(x *api.Tree) { x.Nodes[2].Kids[0] = 3 }), api.ErrForm},
		{"leaf too small", built(false, []int{3, 4}, []int{2}), api.ErrForm},
	} {
		for _, s := range []api.Spot{spot(record(0)), spot(record(1)), spot(record(7)), {}, {Made: 1}, {Key: api.Key{Off: -1}, Made: 1}, {Key: api.Key{Pfs: 99}}} {
			got, err := shrink.Remove(x.t, s)
			refused(t, fmt.Sprint(x.name, ": Remove ", s), got, err, x.want)
		}
	}
}

// same compares trees field by field, with what lies in the spare capacity of their slices.
func same(x, y api.Tree) bool {
	return x.Root == y.Root && slices.EqualFunc(x.Nodes[:cap(x.Nodes)], y.Nodes[:cap(y.Nodes)], func(m, n api.Node) bool {
		return m.Kind == n.Kind &&
			slices.Equal(m.Elems[:cap(m.Elems)], n.Elems[:cap(n.Elems)]) &&
			slices.Equal(m.Kids[:cap(m.Kids)], n.Kids[:cap(n.Kids)]) &&
			slices.Equal(m.Seps[:cap(m.Seps)], n.Seps[:cap(n.Seps)]) &&
			slices.Equal(m.Tids[:cap(m.Tids)], n.Tids[:cap(n.Tids)])
	})
}

// spoil writes over all memory of a tree. What has been written over before is found again.
func spoil(t *testing.T, name string, x api.Tree) {
	t.Helper()
	x.Nodes = x.Nodes[:cap(x.Nodes)]
	for i := range x.Nodes {
		n := &x.Nodes[i]
		if n.Kind == -7 {
			t.Fatalf("%s: nodes share memory", name)
		}
		n.Kind = -7
		fill(t, name, n.Elems, api.Elem{Made: -7})
		fill(t, name, n.Kids, -7)
		fill(t, name, n.Seps, api.Spot{Made: -7})
		fill(t, name, n.Tids, -7)
	}
}

// fill writes over a slice and its spare capacity.
func fill[E comparable](t *testing.T, name string, l []E, mark E) {
	t.Helper()
	l = l[:cap(l)]
	if slices.Contains(l, mark) {
		t.Fatalf("%s: slices share memory", name)
	}
	for i := range l {
		l[i] = mark
	}
}

func TestP2TreesAreNotModifiedNorShared(t *testing.T) {
	for _, x := range samples(t) {
		spots := []api.Spot{{}, {Made: 1}}
		for _, e := range below(x.t, x.t.Root) {
			spots = append(spots, spot(e))
		}
		for _, s := range spots {
			arg := cloned(x.t)
			first, _ := shrink.Remove(arg, s)
			second, _ := shrink.Remove(arg, s)
			spoil(t, x.name, first)
			spoil(t, x.name, second)
			if !same(arg, cloned(x.t)) {
				t.Fatalf("%s: Remove of %v modified the tree, or its result shares memory with it", x.name, s)
			}
		}
	}
}
