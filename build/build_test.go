package build_test

import (
	"fmt"
	"math"
	"slices"
	"strings"
	"testing"

	"annalist/api"
	"annalist/build"
	"annalist/grow"
	"annalist/shrink"
	"annalist/tree"
)

// fresh returns n records of different keys. Their times do not follow their order, and some are deleted.
func fresh(n int) []api.Elem {
	var l []api.Elem
	for i := range n {
		e := api.Elem{Key: api.Key{Pfs: i / 100, Obj: i / 7 % 50, Off: i % 7}, Made: 1 + i*37%211, Val: strings.Repeat("v", i%41)}
		if i%3 > 0 {
			e.Gone = e.Made + 1 + i*53%97
		}
		l = append(l, e)
	}
	slices.SortFunc(l, func(a, b api.Elem) int {
		return slices.Compare([]int{a.Key.Pfs, a.Key.Obj, a.Key.Off}, []int{b.Key.Pfs, b.Key.Obj, b.Key.Off})
	})
	return l
}

// overlapping returns n records of one key that are no run: each one is deleted long after the next was created, or not at all.
func overlapping(n int) []api.Elem {
	var l []api.Elem
	for i := range n {
		e := api.Elem{Key: api.Key{Pfs: 3, Obj: 2, Off: 1}, Made: 1 + i, Val: fmt.Sprint(i)}
		if i%2 == 0 {
			e.Gone = 2000 - i
		}
		l = append(l, e)
	}
	return l
}

// spot returns the spot of a record.
func spot(e api.Elem) api.Spot {
	return api.Spot{Key: e.Key, Made: e.Made}
}

// levels returns the numbers of nodes that the requirement states, from the leaves to the root.
func levels(records int) []int {
	l := []int{1}
	if records > 8 {
		l[0] = ceil(records)
	}
	for l[len(l)-1] > 1 {
		l = append(l, ceil(l[len(l)-1]))
	}
	return l
}

// ceil divides by eight, rounded up.
func ceil(n int) int {
	return int(math.Ceil(float64(n) / 8))
}

// sizes returns the numbers of nodes on the levels of a valid tree, from the leaves to the root.
func sizes(x api.Tree) []int {
	var l []int
	for level := []int{x.Root}; len(level) > 0; {
		l = append(l, len(level))
		var kids []int
		for _, i := range level {
			kids = append(kids, x.Nodes[i].Kids...)
		}
		level = kids
	}
	slices.Reverse(l)
	return l
}

// smallest fails the test unless x is a tree of these records with as few nodes as possible.
func smallest(t *testing.T, name string, x api.Tree, err api.Errno, want []api.Elem) {
	t.Helper()
	if err != api.OK {
		t.Fatalf("%s: %d, want OK", name, err)
	}
	if got, err := tree.All(x); !slices.Equal(got, want) || err != api.OK {
		t.Fatalf("%s: All = %v, %d, want %v, of %v", name, got, err, want, x)
	}
	count := 0
	for _, n := range levels(len(want)) {
		count += n
	}
	if got := sizes(x); !slices.Equal(got, levels(len(want))) || len(x.Nodes) != count {
		t.Fatalf("%s: %d nodes, those on the levels are %v, want %v", name, len(x.Nodes), got, levels(len(want)))
	}
	if slices.ContainsFunc(x.Nodes, func(n api.Node) bool { return n.Kind == api.Free }) {
		t.Fatalf("%s: a node is free", name)
	}
}

// refused fails the test unless there is only this error.
func refused(t *testing.T, name string, x api.Tree, err, want api.Errno) {
	t.Helper()
	if err != want || x.Root != 0 || len(x.Nodes) != 0 {
		t.Fatalf("%s: %v, %d, want no tree and %d", name, x, err, want)
	}
}

func TestP34Of(t *testing.T) {
	for n := range 401 {
		for _, l := range [][]api.Elem{fresh(n), overlapping(n)} {
			x, err := build.Of(l)
			smallest(t, fmt.Sprint(n, " records"), x, err, l)
		}
	}
}

func TestP34NumbersOfNodes(t *testing.T) {
	for _, x := range []struct{ records, nodes, depth int }{
		{0, 1, 1}, {1, 1, 1}, {8, 1, 1}, {9, 3, 2}, {16, 3, 2}, {17, 4, 2}, {63, 9, 2}, {64, 9, 2}, {65, 12, 3},
		{128, 19, 3}, {129, 21, 3}, {384, 55, 3}, {392, 57, 3}, {393, 58, 3}, {400, 58, 3},
	} {
		y, err := build.Of(fresh(x.records))
		if depth, _ := tree.Depth(y); len(y.Nodes) != x.nodes || depth != x.depth || err != api.OK {
			t.Errorf("%d records: %d nodes on %d levels, %d, want %d on %d", x.records, len(y.Nodes), depth, err, x.nodes, x.depth)
		}
	}
}

// TestP34Extremes builds a tree of the least and the greatest records that there can be.
func TestP34Extremes(t *testing.T) {
	long := strings.Repeat("\xff", 40)
	least := []api.Elem{{Made: 1}, {Made: 2, Gone: 3}, {Made: math.MaxInt32 - 1, Gone: math.MaxInt32}, {Made: math.MaxInt32, Val: long}}
	l := slices.Clone(least)
	for _, k := range []api.Key{{Off: 1}, {Off: 1 << 30}, {Obj: 1}, {Obj: 1 << 20}, {Pfs: 1}, {Pfs: 15, Obj: 1 << 20, Off: 1 << 30}} {
		for _, e := range least {
			e.Key = k
			l = append(l, e)
		}
	}
	x, err := build.Of(l)
	smallest(t, "extremes", x, err, l)
}

func TestP34MoreThan400(t *testing.T) {
	unordered := fresh(500)
	slices.Reverse(unordered)
	for _, l := range [][]api.Elem{fresh(401), fresh(402), overlapping(800), make([]api.Elem, 401), make([]api.Elem, 100000), unordered} {
		x, err := build.Of(l)
		refused(t, fmt.Sprint(len(l), " records"), x, err, api.ErrLarge)
	}
}

// flaw makes a record of a list invalid.
type flaw struct {
	name string
	f    func(l []api.Elem, i int)
	want api.Errno
}

// flaws returns what may be wrong with a record by itself, and then with its place (of a record that is not the first).
func flaws() []flaw {
	return []flaw{
		{"Pfs -1", func(l []api.Elem, i int) { l[i].Key.Pfs = -1 }, api.ErrArg},
		{"Pfs 16", func(l []api.Elem, i int) { l[i].Key.Pfs = 16 }, api.ErrArg},
		{"Obj too large", func(l []api.Elem, i int) { l[i].Key.Obj = 1<<20 + 1 }, api.ErrArg},
		{"Off too large", func(l []api.Elem, i int) { l[i].Key.Off = 1<<30 + 1 }, api.ErrArg},
		{"Off far too small", func(l []api.Elem, i int) { l[i].Key.Off = math.MinInt }, api.ErrArg},
		{"invalid key, time and value", func(l []api.Elem, i int) { l[i] = api.Elem{Key: api.Key{Obj: -1}, Val: strings.Repeat("x", 41)} }, api.ErrArg},
		{"Made 0", func(l []api.Elem, i int) { l[i].Made = 0 }, api.ErrTid},
		{"Made too large", func(l []api.Elem, i int) { l[i].Made = math.MaxInt32 + 1 }, api.ErrTid},
		{"deleted when created", func(l []api.Elem, i int) { l[i].Gone = l[i].Made }, api.ErrTid},
		{"deleted before", func(l []api.Elem, i int) { l[i].Gone = -1 }, api.ErrTid},
		{"deleted too late", func(l []api.Elem, i int) { l[i].Gone = math.MaxInt32 + 1 }, api.ErrTid},
		{"invalid time and value", func(l []api.Elem, i int) { l[i] = api.Elem{Made: -5, Val: strings.Repeat("x", 41)} }, api.ErrTid},
		{"value too long", func(l []api.Elem, i int) { l[i].Val = strings.Repeat("x", 41) }, api.ErrLarge},
		{"value too long, and not in order", func(l []api.Elem, i int) { l[i] = api.Elem{Made: 1, Val: strings.Repeat("x", 41)} }, api.ErrLarge},
		{"as the one before", func(l []api.Elem, i int) { l[i] = l[i-1] }, api.ErrForm},
		{"spot of the one before", func(l []api.Elem, i int) { l[i] = api.Elem{Key: l[i-1].Key, Made: l[i-1].Made, Val: "x"} }, api.ErrForm},
		{"made before the one before", func(l []api.Elem, i int) {
			l[i-1].Made, l[i-1].Gone = 9, 0
			l[i] = api.Elem{Key: l[i-1].Key, Made: 8}
		}, api.ErrForm},
		{"lesser offset", func(l []api.Elem, i int) {
			l[i-1].Key.Off, l[i].Key = 6, l[i-1].Key
			l[i].Key.Off, l[i].Made, l[i].Gone = 5, 300, 0
		}, api.ErrForm},
	}
}

// places returns the indices in l of records that are the first of their object but not of the list, at which flaws are
// tried, and the index of the last record.
func places(l []api.Elem) []int {
	p := []int{len(l) - 1}
	for i := 1; i < len(l); i++ {
		if l[i].Key.Obj != l[i-1].Key.Obj && (i < 80 || i%5 == 0) {
			p = append(p, i)
		}
	}
	return p
}

func TestP34InvalidRecords(t *testing.T) {
	for _, n := range []int{2, 8, 9, 100, 400} {
		for _, f := range flaws() {
			for _, i := range places(fresh(n)) {
				l := fresh(n)
				f.f(l, i)
				x, err := build.Of(l)
				refused(t, fmt.Sprintf("%d records, record %d: %s", n, i, f.name), x, err, f.want)
			}
		}
	}
	for _, f := range flaws() {
		if f.want == api.ErrForm {
			continue // the first record has none before it
		}
		for _, n := range []int{1, 9, 400} {
			l := fresh(n)
			f.f(l, 0)
			x, err := build.Of(l)
			refused(t, fmt.Sprintf("%d records, the first one: %s", n, f.name), x, err, f.want)
		}
	}
}

// TestP34TheFirstError: the first record with an error determines the error, whatever is wrong with later ones.
func TestP34TheFirstError(t *testing.T) {
	for _, f := range flaws() {
		for _, g := range flaws() {
			for _, p := range [][2]int{{7, 14}, {21, 49}, {21, 56}} {
				l := fresh(60)
				f.f(l, p[0])
				g.f(l, p[1])
				x, err := build.Of(l)
				refused(t, fmt.Sprintf("record %d: %s, record %d: %s", p[0], f.name, p[1], g.name), x, err, f.want)
			}
		}
	}
}

func TestP34NotInOrder(t *testing.T) {
	for _, n := range []int{2, 8, 9, 64, 65, 400} {
		for i := range n - 1 {
			for _, l := range [][]api.Elem{fresh(n), overlapping(n)} {
				l[i], l[i+1] = l[i+1], l[i]
				x, err := build.Of(l)
				refused(t, fmt.Sprintf("%d records, %d after the next", n, i), x, err, api.ErrForm)
			}
		}
	}
}

// inserted is a tree into which records were inserted in the order that a factor gives.
func inserted(t *testing.T, l []api.Elem, factor int) api.Tree {
	t.Helper()
	const prime = 401
	x := tree.New()
	for i := range prime - 1 {
		j := (i+1)*factor%prime - 1
		if j >= len(l) {
			continue
		}
		var err api.Errno
		if x, err = grow.Insert(x, l[j]); err != api.OK {
			t.Fatalf("Insert: %d", err)
		}
	}
	return x
}

// thinned is a tree from which all records were removed but every n-th one, so that nodes are free.
func thinned(t *testing.T, x api.Tree, n int) api.Tree {
	t.Helper()
	l, _ := tree.All(x)
	for i, e := range l {
		if i%n == 0 {
			continue
		}
		var err api.Errno
		if x, err = shrink.Remove(x, spot(e)); err != api.OK {
			t.Fatalf("Remove: %d", err)
		}
	}
	return x
}

// packed fails the test unless Pack of a tree is Of of all its records.
func packed(t *testing.T, name string, x api.Tree) {
	t.Helper()
	l, err := tree.All(x)
	if err != api.OK {
		t.Fatalf("%s: the sample is no tree: %d", name, err)
	}
	got, err := build.Pack(x)
	smallest(t, name, got, err, l)
	if want, _ := build.Of(l); !same(got, want) {
		t.Fatalf("%s: Pack = %v, want %v", name, got, want)
	}
}

func TestP35Pack(t *testing.T) {
	for _, n := range []int{0, 1, 4, 8, 9, 10, 33, 64, 65, 100, 211, 399, 400} {
		for _, factor := range []int{1, 400, 57, 200} {
			for _, l := range [][]api.Elem{fresh(n), overlapping(n)} {
				name := fmt.Sprintf("%d records, factor %d", n, factor)
				x := inserted(t, l, factor)
				packed(t, name, x)
				packed(t, name+", thinned", thinned(t, x, 3))
			}
		}
		once, _ := build.Of(fresh(n))
		packed(t, fmt.Sprint(n, " records, packed"), once)
	}
}

// TestP35PackOfFreeNodes packs trees in which all numbers of nodes are taken, most of them by free ones.
func TestP35PackOfFreeNodes(t *testing.T) {
	for _, n := range []int{0, 8, 9, 65, 200} {
		x := inserted(t, fresh(n), 57)
		x.Nodes = append(x.Nodes, make([]api.Node, 400-len(x.Nodes))...)
		packed(t, fmt.Sprint(n, " records, 400 nodes"), x)
		packed(t, fmt.Sprint(n, " records, 400 nodes, renumbered"), reversed(x))
	}
}

// reversed is a tree with its nodes in reverse order.
func reversed(x api.Tree) api.Tree {
	last := len(x.Nodes) - 1
	r := cloned(x)
	r.Root = last - x.Root
	for _, n := range r.Nodes {
		for i := range n.Kids {
			n.Kids[i] = last - n.Kids[i]
		}
	}
	slices.Reverse(r.Nodes)
	return r
}

// joined is a tree of two trees of the same depth, whose roots are large enough to be below another one.
func joined(a, b api.Tree) api.Tree {
	x, y := cloned(a), cloned(b)
	root := api.Node{
		Kind: api.Inner,
		Kids: []int{x.Root, len(x.Nodes) + y.Root},
		Tids: []int{greatest(x), greatest(y)},
	}
	for _, n := range y.Nodes {
		for i := range n.Kids {
			n.Kids[i] += len(x.Nodes)
		}
	}
	l, _ := tree.All(b)
	root.Seps = []api.Spot{spot(l[0])}
	nodes := slices.Concat(x.Nodes, y.Nodes, []api.Node{root})
	return api.Tree{Root: len(nodes) - 1, Nodes: nodes}
}

// greatest returns the greatest time in a tree.
func greatest(x api.Tree) int {
	last := 0
	for _, n := range x.Nodes {
		for _, e := range n.Elems {
			last = max(last, e.Made, e.Gone)
		}
	}
	return last
}

// halved is a tree of records that was joined from two trees.
func halved(t *testing.T, l []api.Elem) api.Tree {
	t.Helper()
	a, errA := build.Of(l[:len(l)/2])
	b, errB := build.Of(l[len(l)/2:])
	if errA != api.OK || errB != api.OK {
		t.Fatalf("%d records: the halves of the sample are no trees: %d, %d", len(l), errA, errB)
	}
	x := joined(a, b)
	if got, err := tree.All(x); err != api.OK || !slices.Equal(got, l) {
		t.Fatalf("%d records: the sample is no tree: %d", len(l), err)
	}
	return x
}

// TestP35PackOfLargeTrees: a valid tree may have more records than Of accepts.
func TestP35PackOfLargeTrees(t *testing.T) {
	packed(t, "400 records", halved(t, fresh(400)))
	for _, n := range []int{401, 402, 500, 800} {
		for _, l := range [][]api.Elem{fresh(n), overlapping(n)} {
			x, err := build.Pack(halved(t, l))
			refused(t, fmt.Sprint(n, " records"), x, err, api.ErrLarge)
		}
	}
}

func TestP35InvalidTrees(t *testing.T) {
	leaf := func(e ...api.Elem) api.Tree { return api.Tree{Nodes: []api.Node{{Kind: api.Leaf, Elems: e}}} }
	wrong := func(n int, f func(x *api.Tree)) api.Tree {
		x := cloned(halved(t, fresh(n)))
		f(&x)
		return x
	}
	for _, x := range []struct {
		name string
		t    api.Tree
		want api.Errno
	}{
		{"no nodes", api.Tree{}, api.ErrForm},
		{"401 nodes", api.Tree{Nodes: make([]api.Node, 401)}, api.ErrLarge},
		{"free nodes", api.Tree{Nodes: make([]api.Node, 400)}, api.ErrForm},
		{"root -1", api.Tree{Root: -1, Nodes: tree.New().Nodes}, api.ErrForm},
		{"root does not exist", api.Tree{Root: 1, Nodes: tree.New().Nodes}, api.ErrForm},
		{"unknown kind", api.Tree{Nodes: []api.Node{{Kind: 3}}}, api.ErrForm},
		{"nine records", leaf(make([]api.Elem, 9)...), api.ErrLarge},
		{"invalid key", leaf(api.Elem{Key: api.Key{Off: -1}, Made: 1}), api.ErrArg},
		{"invalid time", leaf(api.Elem{}), api.ErrTid},
		{"value too long", leaf(api.Elem{Made: 1, Val: strings.Repeat("x", 41)}), api.ErrLarge},
		{"records not in order", leaf(api.Elem{Made: 2}, api.Elem{Made: 1}), api.ErrForm},
		{"wrong time", wrong(9, func(x *api.Tree) { x.Nodes[2].Tids[0]++ }), api.ErrForm},
		{"wrong separator", wrong(9, func(x *api.Tree) { x.Nodes[2].Seps[0].Key.Pfs = 9 }), api.ErrForm},
		{"root is its child", wrong(9, func(x *api.Tree) { x.Nodes[2].Kids[0] = 2 }), api.ErrForm},
		{"child does not exist", wrong(9, func(x *api.Tree) { x.Nodes[2].Kids[0] = 3 }), api.ErrForm},
		{"leaf too small", wrong(9, func(x *api.Tree) { x.Nodes[0].Elems = x.Nodes[0].Elems[:3] }), api.ErrForm},
		{"too many records, wrong time", wrong(800, func(x *api.Tree) { x.Nodes[x.Root].Tids[0]++ }), api.ErrForm},
		{"too many records, the last one invalid", wrong(800, func(x *api.Tree) { x.Nodes[107].Elems[7].Made = 0 }), api.ErrTid},
	} {
		y, err := build.Pack(x.t)
		refused(t, x.name, y, err, x.want)
	}
}

// cloned copies a tree into slices with capacity to spare.
func cloned(x api.Tree) api.Tree {
	c := api.Tree{Root: x.Root, Nodes: make([]api.Node, 0, len(x.Nodes)+2)}
	for _, n := range x.Nodes {
		c.Nodes = append(c.Nodes, api.Node{
			Kind:  n.Kind,
			Elems: append(make([]api.Elem, 0, 12), n.Elems...),
			Kids:  append(make([]int, 0, 12), n.Kids...),
			Seps:  append(make([]api.Spot, 0, 12), n.Seps...),
			Tids:  append(make([]int, 0, 12), n.Tids...),
		})
	}
	return c
}

// same compares trees field by field.
func same(x, y api.Tree) bool {
	return x.Root == y.Root && slices.EqualFunc(x.Nodes, y.Nodes, func(m, n api.Node) bool {
		return m.Kind == n.Kind && slices.Equal(m.Elems, n.Elems) && slices.Equal(m.Kids, n.Kids) &&
			slices.Equal(m.Seps, n.Seps) && slices.Equal(m.Tids, n.Tids)
	})
}

// whole is a tree with what lies in the spare capacity of its slices.
func whole(x api.Tree) api.Tree {
	w := api.Tree{Root: x.Root}
	for _, n := range x.Nodes[:cap(x.Nodes)] {
		w.Nodes = append(w.Nodes, api.Node{
			Kind:  n.Kind,
			Elems: n.Elems[:cap(n.Elems)],
			Kids:  n.Kids[:cap(n.Kids)],
			Seps:  n.Seps[:cap(n.Seps)],
			Tids:  n.Tids[:cap(n.Tids)],
		})
	}
	return w
}

// spoil writes over all memory of a tree. What has been written over before is found again.
func spoil(t *testing.T, name string, x api.Tree) {
	t.Helper()
	x.Nodes = x.Nodes[:cap(x.Nodes)]
	for i := range x.Nodes {
		n := &x.Nodes[i]
		if n.Kind == -7 {
			t.Fatalf("%s: nodes share memory", name)
		}
		n.Kind = -7
		fill(t, name, n.Elems, api.Elem{Made: -7})
		fill(t, name, n.Kids, -7)
		fill(t, name, n.Seps, api.Spot{Made: -7})
		fill(t, name, n.Tids, -7)
	}
}

// fill writes over a slice and its spare capacity.
func fill[E comparable](t *testing.T, name string, l []E, mark E) {
	t.Helper()
	l = l[:cap(l)]
	if slices.Contains(l, mark) {
		t.Fatalf("%s: slices share memory", name)
	}
	for i := range l {
		l[i] = mark
	}
}

func TestP2RecordsAreNotModifiedNorShared(t *testing.T) {
	for n := range 401 {
		name := fmt.Sprint(n, " records")
		arg := fresh(400)[:n]
		for range 2 {
			x, _ := build.Of(arg)
			spoil(t, name, x)
		}
		if !slices.Equal(arg[:400], fresh(400)) {
			t.Fatalf("%s: Of modified the records, or its result shares memory with them", name)
		}
	}
}

func TestP2TreesAreNotModifiedNorShared(t *testing.T) {
	for _, n := range []int{0, 1, 8, 9, 64, 65, 200, 400} {
		x := inserted(t, fresh(n), 57)
		packed, _ := build.Of(fresh(n))
		for _, y := range []api.Tree{x, thinned(t, x, 2), packed} {
			name := fmt.Sprint(n, " records")
			arg := cloned(y)
			for range 2 {
				p, _ := build.Pack(arg)
				spoil(t, name, p)
			}
			if !same(whole(arg), whole(cloned(y))) {
				t.Fatalf("%s: Pack modified the tree, or its result shares memory with it", name)
			}
		}
	}
}
