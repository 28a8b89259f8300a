package grow_test

import (
	"fmt"
	"math"
	"slices"
	"strings"
	"testing"

	"annalist/api"
	"annalist/grow"
	"annalist/key"
	"annalist/tree"
)

// record returns record n of all samples; between any two of them there is room for others.
func record(n int) api.Elem {
	made := 2 + n*7%50
	if n%2 == 1 {
		made = 60 + n*11%50
	}
	gone := 0
	if n%3 > 0 {
		gone = made + 1 + n*13%70
	}
	return api.Elem{Key: api.Key{Pfs: n / 200, Obj: n / 20 % 10, Off: 1 + n/2%10*2}, Made: made, Gone: gone, Val: strings.Repeat("v", n%41)}
}

// spot returns the spot of a record.
func spot(e api.Elem) api.Spot {
	return api.Spot{Key: e.Key, Made: e.Made}
}

// built is a tree of leaves with these numbers of records and of levels of inner nodes with these numbers of children,
// from the lowest level to the root. A separator is the first spot after it or, if low, the least that there may be.
func built(low bool, leaves []int, levels ...[]int) api.Tree {
	var t api.Tree
	var level []int
	records := 0
	for _, n := range leaves {
		x := api.Node{Kind: api.Leaf}
		for range n {
			x.Elems = append(x.Elems, record(records))
			records++
		}
		level = append(level, len(t.Nodes))
		t.Nodes = append(t.Nodes, x)
	}
	for _, sizes := range levels {
		var above []int
		for _, n := range sizes {
			x := api.Node{Kind: api.Inner, Kids: level[:n]}
			for i, kid := range x.Kids {
				l := below(t, kid)
				if i > 0 && low {
					left := below(t, x.Kids[i-1])
					s := spot(left[len(left)-1])
					s.Made++
					x.Seps = append(x.Seps, s)
				} else if i > 0 {
					x.Seps = append(x.Seps, spot(l[0]))
				}
				x.Tids = append(x.Tids, greatest(l))
			}
			level = level[n:]
			above = append(above, len(t.Nodes))
			t.Nodes = append(t.Nodes, x)
		}
		level = above
	}
	t.Root = level[0]
	return cloned(t)
}

// below returns the records in the subtree of node i.
func below(t api.Tree, i int) []api.Elem {
	l := slices.Clone(t.Nodes[i].Elems)
	for _, kid := range t.Nodes[i].Kids {
		l = append(l, below(t, kid)...)
	}
	return l
}

// greatest returns the greatest time of records.
func greatest(l []api.Elem) int {
	t := 0
	for _, e := range l {
		t = max(t, e.Made, e.Gone)
	}
	return t
}

// cloned copies a tree into slices with capacity to spare.
func cloned(t api.Tree) api.Tree {
	c := api.Tree{Root: t.Root, Nodes: make([]api.Node, 0, len(t.Nodes)+2)}
	for _, n := range t.Nodes {
		c.Nodes = append(c.Nodes, api.Node{
			Kind:  n.Kind,
			Elems: append(make([]api.Elem, 0, 12), n.Elems...),
			Kids:  append(make([]int, 0, 12), n.Kids...),
			Seps:  append(make([]api.Spot, 0, 12), n.Seps...),
			Tids:  append(make([]int, 0, 12), n.Tids...),
		})
	}
	return c
}

// renumbered is a tree of size nodes in which node i has the number to(i), and the others are free.
func renumbered(t api.Tree, size int, to func(i int) int) api.Tree {
	r := api.Tree{Root: to(t.Root), Nodes: make([]api.Node, size)}
	for i, n := range cloned(t).Nodes {
		for j, kid := range n.Kids {
			n.Kids[j] = to(kid)
		}
		r.Nodes[to(i)] = n
	}
	return r
}

// times repeats a number.
func times(n, x int) []int {
	return slices.Repeat([]int{x}, n)
}

// sample is a tree with its name.
type sample struct {
	name string
	t    api.Tree
}

// samples returns trees of several shapes and depths.
func samples(t *testing.T) []sample {
	var l []sample
	for _, low := range []bool{false, true} {
		for _, x := range []sample{
			{"no records", built(low, []int{0})},
			{"one record", built(low, []int{1})},
			{"seven records", built(low, []int{7})},
			{"eight records", built(low, []int{8})},
			{"two leaves", built(low, []int{4, 4}, []int{2})},
			{"three leaves", built(low, []int{4, 8, 5}, []int{3})},
			{"eight full leaves", built(low, times(8, 8), []int{8})},
			{"two inner nodes", built(low, []int{4, 5, 6, 7, 8, 4, 4, 8}, []int{4, 4}, []int{2})},
			{"two full inner nodes", built(low, times(16, 8), times(2, 8), []int{2})},
			{"inner nodes of several sizes", built(low, times(17, 8), []int{4, 8, 5}, []int{3})},
			{"full nodes up to the root", built(low, slices.Concat(times(12, 4), times(8, 8), times(16, 4)), []int{4, 4, 4, 8, 4, 4, 4, 4}, []int{8})},
			{"four levels", built(low, times(34, 4), []int{4, 5, 4, 4, 5, 4, 4, 4}, []int{4, 4}, []int{2})},
		} {
			n := len(x.t.Nodes)
			l = append(l,
				sample{fmt.Sprint(x.name, ", low separators: ", low), x.t},
				sample{fmt.Sprint(x.name, ", low separators: ", low, ", between free nodes"), renumbered(x.t, 2*n+1, func(i int) int { return 2*(n-i) - 1 })})
		}
	}
	for _, x := range l {
		if err := tree.Check(x.t); err != api.OK {
			t.Fatalf("%s: the sample is no tree: %d", x.name, err)
		}
	}
	return l
}

// with returns records and one more, in order. A record with the same spot is replaced.
func with(l []api.Elem, e api.Elem) []api.Elem {
	r := []api.Elem{e}
	for _, x := range l {
		if spot(x) != spot(e) {
			r = append(r, x)
		}
	}
	slices.SortFunc(r, func(a, b api.Elem) int { return key.CmpSpot(spot(a), spot(b)) })
	return r
}

// holds fails the test unless x is a tree of these records that needs no more nodes than there may be.
func holds(t *testing.T, name string, x api.Tree, err api.Errno, want []api.Elem) {
	t.Helper()
	if err != api.OK {
		t.Fatalf("%s: %d", name, err)
	}
	if got, err := tree.All(x); !slices.Equal(got, want) || err != api.OK {
		t.Fatalf("%s: All = %v, %d, want %v, of %v", name, got, err, want, x)
	}
}

// candidates returns records with the spots beside those of l, and with the least and greatest valid ones.
// Their times are less or greater than all others.
func candidates(l []api.Elem) []api.Elem {
	r := []api.Elem{
		{Made: 1},
		{Made: math.MaxInt32},
		{Key: api.Key{Pfs: 15, Obj: 1 << 20, Off: 1 << 30}, Made: math.MaxInt32, Val: strings.Repeat("x", 40)},
		{Key: api.Key{Pfs: 15, Obj: 1 << 20, Off: 1 << 30}, Made: 1, Gone: math.MaxInt32},
	}
	for i, e := range l {
		for _, off := range []int{-1, 0, 1} {
			made := e.Made - 1 + i%3
			for _, gone := range []int{0, made + 1, 1000}[i%3:] {
				r = append(r, api.Elem{Key: api.Key{Pfs: e.Key.Pfs, Obj: e.Key.Obj, Off: e.Key.Off + off}, Made: made, Gone: gone, Val: "new"})
			}
		}
	}
	return r
}

// contains reports whether there is a record with the spot of e.
func contains(l []api.Elem, e api.Elem) bool {
	return slices.ContainsFunc(l, func(x api.Elem) bool { return spot(x) == spot(e) })
}

func TestP27InsertEverywhere(t *testing.T) {
	for _, x := range samples(t) {
		l := below(x.t, x.t.Root)
		for _, e := range candidates(l) {
			got, err := grow.Insert(x.t, e)
			if contains(l, e) {
				refused(t, x.name, got, err, api.ErrThere)
			} else {
				holds(t, fmt.Sprint(x.name, ": Insert ", e), got, err, with(l, e))
			}
		}
	}
}

// refused fails the test unless there is only this error.
func refused(t *testing.T, name string, got api.Tree, err, want api.Errno) {
	t.Helper()
	if err != want || got.Root != 0 || len(got.Nodes) != 0 {
		t.Fatalf("%s: %v, %d, want no tree and %d", name, got, err, want)
	}
}

// TestP27InsertInManyOrders fills trees to the last record that they may have.
func TestP27InsertInManyOrders(t *testing.T) {
	const prime = 401 // every factor below it gives another order of the 400 records
	for _, factor := range []int{1, 400, 2, 200, 3, 20, 21, 57, 100, 399} {
		x := tree.New()
		var l []api.Elem
		for i := range 400 {
			e := api.Elem{Key: api.Key{Off: (i + 1) * factor % prime}, Made: 1 + i*31%90}
			if i%2 == 0 {
				e.Gone = e.Made + 1 + i
			}
			var err api.Errno
			x, err = grow.Insert(x, e)
			l = append(l, e)
			if i < 90 || i%10 == 9 {
				holds(t, fmt.Sprintf("factor %d, record %d", factor, i), x, err, with(l, e))
			}
		}
		// With at least four records or children in every node but the root, there cannot be five levels.
		if depth, err := tree.Depth(x); depth < 3 || depth > 4 || err != api.OK {
			t.Errorf("factor %d: Depth = %d, %d, want 3 or 4", factor, depth, err)
		}
		got, err := grow.Insert(x, api.Elem{Made: 1})
		refused(t, "record 401", got, err, api.ErrFull)
	}
}

// TestP27InsertVersions inserts many records of few keys, in order of time.
func TestP27InsertVersions(t *testing.T) {
	x := tree.New()
	var l []api.Elem
	for i := range 200 {
		e := api.Elem{Key: api.Key{Obj: i % 3}, Made: 1 + i, Gone: 4 + i, Val: fmt.Sprint(i)}
		var err api.Errno
		x, err = grow.Insert(x, e)
		l = with(l, e)
		holds(t, fmt.Sprint("version ", i), x, err, l)
	}
}

func TestP27NineRecords(t *testing.T) {
	for _, order := range [][]int{{0, 1, 2, 3, 4, 5, 6, 7, 8}, {8, 7, 6, 5, 4, 3, 2, 1, 0}, {4, 0, 8, 1, 7, 2, 6, 3, 5}} {
		x := tree.New()
		for i, off := range order {
			var err api.Errno
			x, err = grow.Insert(x, api.Elem{Key: api.Key{Off: off}, Made: 1})
			depth := 1 + i/8
			if got, _ := tree.Depth(x); got != depth || err != api.OK {
				t.Fatalf("after %d records: depth %d, %d, want %d", i+1, got, err, depth)
			}
		}
		kinds := map[int]int{}
		for _, n := range x.Nodes {
			kinds[n.Kind]++
		}
		if kinds[api.Leaf] != 2 || kinds[api.Inner] != 1 {
			t.Errorf("order %v: %v leaves and %v inner nodes, want 2 and 1", order, kinds[api.Leaf], kinds[api.Inner])
		}
	}
}

// TestP27InsertAmongFreeNodes splits nodes where all numbers of nodes are taken, by free ones.
func TestP27InsertAmongFreeNodes(t *testing.T) {
	for _, x := range samples(t) {
		if len(x.t.Nodes) > 100 {
			continue
		}
		x.t = renumbered(x.t, 400, func(i int) int { return 399 - i*3 })
		l := below(x.t, x.t.Root)
		for i := 0; i < 100; i++ {
			e := api.Elem{Key: api.Key{Off: 2 * (i * 37 % 101)}, Made: 500}
			var err api.Errno
			x.t, err = grow.Insert(x.t, e)
			l = with(l, e)
			holds(t, x.name, x.t, err, l)
		}
	}
}

// invalid is what is no tree, with the error of tree.Check.
type invalid struct {
	name string
	t    api.Tree
	want api.Errno
}

// invalids returns what is no tree.
func invalids() []invalid {
	leaf := func(e ...api.Elem) api.Tree { return api.Tree{Nodes: []api.Node{{Kind: api.Leaf, Elems: e}}} }
	wrong := built(false, []int{4, 4}, []int{2})
	wrong.Nodes[2].Tids[0]++
	ring := built(false, []int{4, 4}, []int{2})
	ring.Nodes[2].Kids[0] = 2
	full := built(false, times(64, 8), times(8, 8), []int{8})
	full.Nodes[0].Kind = api.Free
	return []invalid{
		{"no nodes", api.Tree{}, api.ErrForm},
		{"401 nodes", api.Tree{Nodes: make([]api.Node, 401)}, api.ErrLarge},
		{"free nodes", api.Tree{Nodes: make([]api.Node, 400)}, api.ErrForm},
		{"root -1", api.Tree{Root: -1, Nodes: tree.New().Nodes}, api.ErrForm},
		{"root does not exist", api.Tree{Root: 1, Nodes: tree.New().Nodes}, api.ErrForm},
		{"unknown kind", api.Tree{Nodes: []api.Node{{Kind: 3}}}, api.ErrForm},
		{"nine records", leaf(make([]api.Elem, 9)...), api.ErrLarge},
		{"invalid key", leaf(api.Elem{Key: api.Key{Off: -1}, Made: 1}), api.ErrArg},
		{"invalid time", leaf(api.Elem{}), api.ErrTid},
		{"records not in order", leaf(record(1), record(0)), api.ErrForm},
		{"wrong time", wrong, api.ErrForm},
		{"root is its child", ring, api.ErrForm},
		{"too many records, invalid", full, api.ErrForm},
	}
}

// rejected returns invalid records with the error of elem.Check. Some have the spot of a record of a sample.
func rejected() map[api.Errno][]api.Elem {
	e := record(0)
	e.Val = strings.Repeat("x", 41)
	f := record(0)
	f.Gone = f.Made
	g := record(0)
	g.Gone = math.MinInt
	return map[api.Errno][]api.Elem{
		api.ErrArg: {
			{Key: api.Key{Pfs: -1}, Made: 1}, {Key: api.Key{Pfs: 16}, Made: 1}, {Key: api.Key{Obj: 1<<20 + 1}, Made: 1},
			{Key: api.Key{Off: 1<<30 + 1}, Made: 1}, {Key: api.Key{Off: math.MinInt}, Made: 1}, {Key: api.Key{Obj: -1}},
		},
		api.ErrTid:   {{}, {Made: -1}, {Made: 1 << 31}, {Made: math.MaxInt}, {Made: 2, Gone: 1}, {Made: 1, Gone: 1 << 31}, f, g},
		api.ErrLarge: {{Made: 1, Val: strings.Repeat("x", 41)}, {Made: 1, Val: strings.Repeat("x", 100000)}, e},
	}
}

func TestP27P28InvalidTreesFirst(t *testing.T) {
	for _, x := range invalids() {
		for _, e := range []api.Elem{record(0), record(70), {}, {Key: api.Key{Pfs: 99}}} {
			got, err := grow.Insert(x.t, e)
			refused(t, x.name, got, err, x.want)
			got, err = grow.Set(x.t, e)
			refused(t, x.name, got, err, x.want)
		}
	}
}

func TestP27P28InvalidRecords(t *testing.T) {
	trees := append(samples(t), sample{"full tree", built(false, times(50, 8), append(times(5, 8), 5, 5), []int{7})})
	for _, x := range trees {
		for want, l := range rejected() {
			for _, e := range l {
				got, err := grow.Insert(x.t, e)
				refused(t, fmt.Sprint(x.name, ": Insert ", e), got, err, want)
				got, err = grow.Set(x.t, e)
				refused(t, fmt.Sprint(x.name, ": Set ", e), got, err, want)
			}
		}
	}
}

func TestP27InsertIntoFullTrees(t *testing.T) {
	for _, x := range []sample{
		{"399 records", built(false, append(times(49, 8), 7), times(10, 5), []int{5, 5}, []int{2})},
		{"400 records", built(false, times(50, 8), times(10, 5), []int{5, 5}, []int{2})},
		{"400 records in small leaves", built(true, times(100, 4), times(25, 4), []int{4, 4, 4, 4, 4, 5}, []int{6})},
		{"512 records", built(true, times(64, 8), times(8, 8), []int{8})},
		{"512 records in small leaves", built(true, times(128, 4), times(32, 4), times(8, 4), []int{4, 4}, []int{2})},
	} {
		l := below(x.t, x.t.Root)
		for _, e := range l {
			got, err := grow.Insert(x.t, e)
			refused(t, x.name, got, err, api.ErrThere)
		}
		for _, e := range []api.Elem{{Made: 1}, {Key: api.Key{Pfs: 15}, Made: 1}, {Key: l[300].Key, Made: l[300].Made + 1}} {
			got, err := grow.Insert(x.t, e)
			if len(l) < 400 {
				holds(t, x.name, got, err, with(l, e))
			} else {
				refused(t, x.name, got, err, api.ErrFull)
			}
		}
	}
}

// others returns records with the spot of e and anything else.
func others(e api.Elem) []api.Elem {
	a, b, c := e, e, e
	a.Gone, a.Val = 0, ""
	b.Gone, b.Val = e.Made+1, strings.Repeat("y", 40)
	c.Gone = math.MaxInt32
	return []api.Elem{e, a, b, c}
}

func TestP28Set(t *testing.T) {
	trees := append(samples(t),
		sample{"512 records", built(true, times(64, 8), times(8, 8), []int{8})},
		sample{"392 nodes", built(false, times(342, 8), append(times(42, 8), 6), []int{8, 7, 7, 7, 7, 7}, []int{6})})
	for _, x := range trees {
		l := below(x.t, x.t.Root)
		for i := 0; i < len(l); i += 1 + len(l)/60 {
			for _, e := range others(l[i]) {
				got, err := grow.Set(x.t, e)
				holds(t, fmt.Sprint(x.name, ": Set ", e), got, err, with(l, e))
			}
		}
	}
}

// TestP28SetManyTimes lets the greatest times in a tree rise and fall.
func TestP28SetManyTimes(t *testing.T) {
	for _, x := range samples(t) {
		l := below(x.t, x.t.Root)
		for i := range l {
			e := l[i*5%len(l)]
			e.Gone = e.Made + 1 + (i*97)%1000
			var err api.Errno
			x.t, err = grow.Set(x.t, e)
			l = with(l, e)
			holds(t, x.name, x.t, err, l)
		}
	}
}

func TestP28SetOfNone(t *testing.T) {
	for _, x := range samples(t) {
		l := below(x.t, x.t.Root)
		for _, e := range candidates(l) {
			if !contains(l, e) {
				got, err := grow.Set(x.t, e)
				refused(t, fmt.Sprint(x.name, ": Set ", e), got, err, api.ErrNone)
			}
		}
	}
}

// same compares trees field by field, with what lies in the spare capacity of their slices.
func same(x, y api.Tree) bool {
	return x.Root == y.Root && slices.EqualFunc(x.Nodes[:cap(x.Nodes)], y.Nodes[:cap(y.Nodes)], func(m, n api.Node) bool {
		return m.Kind == n.Kind &&
			slices.Equal(m.Elems[:cap(m.Elems)], n.Elems[:cap(n.Elems)]) &&
			slices.Equal(m.Kids[:cap(m.Kids)], n.Kids[:cap(n.Kids)]) &&
			slices.Equal(m.Seps[:cap(m.Seps)], n.Seps[:cap(n.Seps)]) &&
			slices.Equal(m.Tids[:cap(m.Tids)], n.Tids[:cap(n.Tids)])
	})
}

// spoil writes over all memory of a tree. What has been written over before is found again.
func spoil(t *testing.T, name string, x api.Tree) {
	t.Helper()
	x.Nodes = x.Nodes[:cap(x.Nodes)]
	for i := range x.Nodes {
		n := &x.Nodes[i]
		if n.Kind == -7 {
			t.Fatalf("%s: nodes share memory", name)
		}
		n.Kind = -7
		fill(t, name, n.Elems, api.Elem{Made: -7})
		fill(t, name, n.Kids, -7)
		fill(t, name, n.Seps, api.Spot{Made: -7})
		fill(t, name, n.Tids, -7)
	}
}

// fill writes over a slice and its spare capacity.
func fill[E comparable](t *testing.T, name string, l []E, mark E) {
	t.Helper()
	l = l[:cap(l)]
	if slices.Contains(l, mark) {
		t.Fatalf("%s: slices share memory", name)
	}
	for i := range l {
		l[i] = mark
	}
}

func TestP2TreesAreNotModifiedNorShared(t *testing.T) {
	for _, x := range samples(t) {
		l := below(x.t, x.t.Root)
		for i, e := range candidates(l) {
			if i%7 > 0 && len(l) > 20 {
				continue
			}
			arg := cloned(x.t)
			first, _ := grow.Insert(arg, e)
			second, _ := grow.Insert(arg, e)
			third, _ := grow.Set(arg, e)
			spoil(t, x.name, first)
			spoil(t, x.name, second)
			spoil(t, x.name, third)
			if !same(arg, cloned(x.t)) {
				t.Fatalf("%s: Insert or Set of %v modified the tree, or its result shares memory with it", x.name, e)
			}
		}
	}
}
