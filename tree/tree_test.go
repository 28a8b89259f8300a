package tree_test

import (
	"fmt"
	"math"
	"slices"
	"strings"
	"testing"

	"annalist/api"
	"annalist/tree"
)

// record returns record n of all trees. Each key has two records, whose times overlap in part;
// many records are deleted, some of them after all others were created.
func record(n int) api.Elem {
	made := 1 + n*7%50
	if n%2 == 1 {
		made = 60 + n*11%50
	}
	gone := 0
	if n%3 > 0 {
		gone = made + 1 + n*13%70
	}
	return api.Elem{Key: api.Key{Obj: n / 20, Off: n / 2 % 10}, Made: made, Gone: gone, Val: strings.Repeat("v", n%41)}
}

// spot returns the spot of a record.
func spot(e api.Elem) api.Spot {
	return api.Spot{Key: e.Key, Made: e.Made}
}

// built is a tree of leaves with these numbers of records and of levels of inner nodes with these numbers of children,
// from the lowest level to the root. A separator is the first spot after it.
func built(leaves []int, levels ...[]int) api.Tree {
	var t api.Tree
	var level []int
	records := 0
	for _, n := range leaves {
		x := api.Node{Kind: api.Leaf}
		for range n {
			x.Elems = append(x.Elems, record(records))
			records++
		}
		level = append(level, len(t.Nodes))
		t.Nodes = append(t.Nodes, x)
	}
	for _, sizes := range levels {
		var above []int
		for _, n := range sizes {
			x := api.Node{Kind: api.Inner}
			for i, kid := range level[:n] {
				l := below(t, kid)
				if i > 0 {
					x.Seps = append(x.Seps, spot(l[0]))
				}
				x.Kids = append(x.Kids, kid)
				x.Tids = append(x.Tids, greatest(l))
			}
			level = level[n:]
			above = append(above, len(t.Nodes))
			t.Nodes = append(t.Nodes, x)
		}
		level = above
	}
	t.Root = level[0]
	return t
}

// below returns the records in the subtree of node i.
func below(t api.Tree, i int) []api.Elem {
	l := slices.Clone(t.Nodes[i].Elems)
	for _, kid := range t.Nodes[i].Kids {
		l = append(l, below(t, kid)...)
	}
	return l
}

// greatest returns the greatest time of records.
func greatest(l []api.Elem) int {
	last := 0
	for _, e := range l {
		last = max(last, e.Made, e.Gone)
	}
	return last
}

// cloned copies a tree into slices with capacity to spare.
func cloned(t api.Tree) api.Tree {
	c := api.Tree{Root: t.Root, Nodes: make([]api.Node, 0, len(t.Nodes)+2)}
	for _, n := range t.Nodes {
		c.Nodes = append(c.Nodes, api.Node{
			Kind:  n.Kind,
			Elems: append(make([]api.Elem, 0, 12), n.Elems...),
			Kids:  append(make([]int, 0, 12), n.Kids...),
			Seps:  append(make([]api.Spot, 0, 12), n.Seps...),
			Tids:  append(make([]int, 0, 12), n.Tids...),
		})
	}
	return c
}

// renumbered is a tree of size nodes in which node i has the number to(i), and the others are free.
func renumbered(t api.Tree, size int, to func(i int) int) api.Tree {
	c := cloned(t)
	r := api.Tree{Root: to(t.Root), Nodes: make([]api.Node, size)}
	for i, n := range c.Nodes {
		for j, kid := range n.Kids {
			n.Kids[j] = to(kid)
		}
		r.Nodes[to(i)] = n
	}
	return r
}

// times repeats a number.
func times(n, x int) []int {
	return slices.Repeat([]int{x}, n)
}

// sample is a tree with the number of its records and its depth.
type sample struct {
	name           string
	t              api.Tree
	records, depth int
}

// samples returns trees of several shapes and depths.
func samples() []sample {
	l := []sample{
		{"no records", built([]int{0}), 0, 1},
		{"one record", built([]int{1}), 1, 1},
		{"three records", built([]int{3}), 3, 1},
		{"eight records", built([]int{8}), 8, 1},
		{"two leaves", built([]int{4, 4}, []int{2}), 8, 2},
		{"three leaves", built([]int{4, 8, 5}, []int{3}), 17, 2},
		{"eight leaves", built(times(8, 8), []int{8}), 64, 2},
		{"two inner nodes", built([]int{4, 5, 6, 7, 8, 4, 4, 8}, []int{4, 4}, []int{2}), 46, 3},
		{"inner nodes of several sizes", built(times(17, 5), []int{4, 8, 5}, []int{3}), 85, 3},
		{"four levels", built(times(34, 4), []int{4, 5, 4, 4, 5, 4, 4, 4}, []int{4, 4}, []int{2}), 136, 4},
		{"five levels", built(times(128, 4), times(32, 4), times(8, 4), []int{4, 4}, []int{2}), 512, 5},
		{"more records than a run", built(times(64, 8), times(8, 8), []int{8}), 512, 3},
		{"392 nodes", built(times(342, 8), append(times(42, 8), 6), []int{8, 7, 7, 7, 7, 7}, []int{6}), 2736, 4},
	}
	for _, x := range l {
		n := len(x.t.Nodes)
		l = append(l,
			sample{x.name + ", numbered in reverse", renumbered(x.t, n, func(i int) int { return n - 1 - i }), x.records, x.depth},
			sample{x.name + ", after free nodes", renumbered(x.t, 400, func(i int) int { return 399 - i }), x.records, x.depth})
		if n < 200 {
			l = append(l, sample{x.name + ", between free nodes", renumbered(x.t, 2*n+1, func(i int) int { return 2*i + 1 }), x.records, x.depth})
		}
		if n%7 > 0 {
			l = append(l, sample{x.name + ", in no order", renumbered(x.t, n, func(i int) int { return i * 7 % n }), x.records, x.depth})
		}
	}
	return l
}

// described is a tree for a message, unless it is too large for one.
func described(x api.Tree) string {
	s := fmt.Sprint(x)
	return s[:min(len(s), 2000)]
}

// checked tries Check. All and Depth must say the same of what it rejects.
func checked(t *testing.T, name string, x api.Tree, want api.Errno) {
	t.Helper()
	if got := tree.Check(x); got != want {
		t.Fatalf("%s: Check = %d, want %d, of %s", name, got, want, described(x))
	}
	l, err := tree.All(x)
	if err != want || want != api.OK && len(l) > 0 {
		t.Fatalf("%s: All returned %d records, %d, want %d, of %s", name, len(l), err, want, described(x))
	}
	n, err := tree.Depth(x)
	if err != want || (n == 0) != (want != api.OK) {
		t.Fatalf("%s: Depth = %d, %d, want %d, of %s", name, n, err, want, described(x))
	}
}

func TestP22CheckAcceptsTrees(t *testing.T) {
	for _, x := range samples() {
		checked(t, x.name, x.t, api.OK)
	}
}

// shared is the tree of two leaves in which single things are spoilt.
func shared() api.Tree {
	leaf := func(from, made, gone int) api.Node {
		n := api.Node{Kind: api.Leaf}
		for i := range 4 {
			n.Elems = append(n.Elems, api.Elem{Key: api.Key{Off: from + i}, Made: made, Gone: gone})
		}
		return n
	}
	return api.Tree{Root: 2, Nodes: []api.Node{
		leaf(0, 1, 0),
		leaf(10, 2, 3),
		{Kind: api.Inner, Kids: []int{0, 1}, Seps: []api.Spot{sep(7, 1)}, Tids: []int{1, 3}},
		{},
	}}
}

// sep is a separator.
func sep(off, made int) api.Spot {
	return api.Spot{Key: api.Key{Off: off}, Made: made}
}

func TestP22CheckOfTwoLeaves(t *testing.T) {
	for _, x := range []struct {
		name  string
		spoil func(x *api.Tree)
		want  api.Errno
	}{
		{"nothing", func(x *api.Tree) {}, api.OK},
		{"no nodes", func(x *api.Tree) { *x = api.Tree{} }, api.ErrForm},
		{"no nodes, empty", func(x *api.Tree) { x.Nodes = []api.Node{} }, api.ErrForm},

		{"root -1", func(x *api.Tree) { x.Root = -1 }, api.ErrForm},
		{"root does not exist", func(x *api.Tree) { x.Root = 4 }, api.ErrForm},
		{"root 400", func(x *api.Tree) { x.Root = 400 }, api.ErrForm},
		{"least root", func(x *api.Tree) { x.Root = math.MinInt }, api.ErrForm},
		{"greatest root", func(x *api.Tree) { x.Root = math.MaxInt }, api.ErrForm},
		{"root is free", func(x *api.Tree) { x.Root = 3 }, api.ErrForm},
		{"root is a child", func(x *api.Tree) { x.Root = 0 }, api.ErrForm},
		{"child does not exist", func(x *api.Tree) { x.Nodes[2].Kids[1] = 4 }, api.ErrForm},
		{"child 399 does not exist", func(x *api.Tree) { x.Nodes[2].Kids[0] = 399 }, api.ErrForm},
		{"child is free", func(x *api.Tree) { x.Nodes[2].Kids[1] = 3 }, api.ErrForm},
		{"child is deleted", func(x *api.Tree) { x.Nodes[1] = api.Node{} }, api.ErrForm},
		{"child is the root", func(x *api.Tree) { x.Nodes[2].Kids[0] = 2 }, api.ErrForm},
		{"child twice", func(x *api.Tree) { x.Nodes[2].Kids[1] = 0 }, api.ErrForm},
		{"child twice, no other one", func(x *api.Tree) {
			x.Nodes[2].Kids[1], x.Nodes[2].Tids[1] = 0, 1
			x.Nodes[1] = api.Node{}
		}, api.ErrForm},

		{"node beside the tree", func(x *api.Tree) { x.Nodes[3] = api.Node{Kind: api.Leaf} }, api.ErrForm},
		{"full node beside the tree", func(x *api.Tree) { x.Nodes[3] = x.Nodes[1] }, api.ErrForm},
		{"second root", func(x *api.Tree) { x.Nodes[3] = x.Nodes[2] }, api.ErrForm},
		{"second root with children of its own", func(x *api.Tree) {
			n := shared().Nodes
			n[2].Kids = []int{3, 4}
			x.Nodes = append(x.Nodes[:3], n[:3]...)
		}, api.ErrForm},
		{"node beside the tree that is its own child", func(x *api.Tree) {
			x.Nodes[3] = api.Node{Kind: api.Inner, Kids: times(4, 3), Seps: []api.Spot{sep(1, 1), sep(2, 1), sep(3, 1)}, Tids: times(4, 0)}
		}, api.ErrForm},
		{"nodes beside the tree that are each other's children", func(x *api.Tree) {
			n := api.Node{Kind: api.Inner, Seps: []api.Spot{sep(1, 1), sep(2, 1), sep(3, 1)}, Tids: times(4, 0)}
			n.Kids = times(4, 4)
			x.Nodes[3] = n
			n.Kids = times(4, 3)
			x.Nodes = append(x.Nodes, n)
		}, api.ErrForm},
		{"a free node more", func(x *api.Tree) { x.Nodes = append(x.Nodes, api.Node{}) }, api.OK},
		{"no free node", func(x *api.Tree) { x.Nodes = x.Nodes[:3] }, api.OK},
		{"no root", func(x *api.Tree) { x.Nodes = x.Nodes[:2] }, api.ErrForm},

		{"three records on the left", func(x *api.Tree) { x.Nodes[0].Elems = x.Nodes[0].Elems[:3] }, api.ErrForm},
		{"three records on the right", func(x *api.Tree) { x.Nodes[1].Elems = x.Nodes[1].Elems[1:] }, api.ErrForm},
		{"no records on the left", func(x *api.Tree) { x.Nodes[0].Elems, x.Nodes[2].Tids[0] = nil, 0 }, api.ErrForm},
		{"no records", func(x *api.Tree) {
			x.Nodes[0].Elems, x.Nodes[1].Elems, x.Nodes[2].Tids = nil, nil, []int{0, 0}
		}, api.ErrForm},

		{"separator is the last spot on the left", func(x *api.Tree) { x.Nodes[2].Seps[0] = sep(3, 1) }, api.ErrForm},
		{"separator follows the last spot on the left", func(x *api.Tree) { x.Nodes[2].Seps[0] = sep(3, 2) }, api.OK},
		{"separator is the first spot on the right", func(x *api.Tree) { x.Nodes[2].Seps[0] = sep(10, 2) }, api.OK},
		{"separator precedes the first spot on the right", func(x *api.Tree) { x.Nodes[2].Seps[0] = sep(10, 1) }, api.OK},
		{"separator follows the first spot on the right", func(x *api.Tree) { x.Nodes[2].Seps[0] = sep(10, 3) }, api.ErrForm},
		{"separator among the records on the left", func(x *api.Tree) { x.Nodes[2].Seps[0] = sep(2, 1) }, api.ErrForm},
		{"separator among the records on the right", func(x *api.Tree) { x.Nodes[2].Seps[0] = sep(11, 1) }, api.ErrForm},
		{"separator before all records", func(x *api.Tree) { x.Nodes[2].Seps[0] = sep(0, 1) }, api.ErrForm},
		{"separator after all records", func(x *api.Tree) { x.Nodes[2].Seps[0] = sep(99, 1) }, api.ErrForm},
		{"separator in another realm", func(x *api.Tree) { x.Nodes[2].Seps[0].Key.Pfs = 1 }, api.ErrForm},
		{"separator made last", func(x *api.Tree) { x.Nodes[2].Seps[0].Made = math.MaxInt32 }, api.OK},
		{"children exchanged", func(x *api.Tree) { slices.Reverse(x.Nodes[2].Kids); slices.Reverse(x.Nodes[2].Tids) }, api.ErrForm},
		{"last record on the right is the greatest one", func(x *api.Tree) {
			x.Nodes[1].Elems[3] = api.Elem{Key: api.Key{Pfs: 15, Obj: 1 << 20, Off: 1 << 30}, Made: math.MaxInt32}
			x.Nodes[2].Tids[1] = math.MaxInt32
		}, api.OK},

		{"time on the left too great", func(x *api.Tree) { x.Nodes[2].Tids[0] = 2 }, api.ErrForm},
		{"time on the left 0", func(x *api.Tree) { x.Nodes[2].Tids[0] = 0 }, api.ErrForm},
		{"time on the right too small", func(x *api.Tree) { x.Nodes[2].Tids[1] = 2 }, api.ErrForm},
		{"time on the right too great", func(x *api.Tree) { x.Nodes[2].Tids[1] = 4 }, api.ErrForm},
		{"times exchanged", func(x *api.Tree) { slices.Reverse(x.Nodes[2].Tids) }, api.ErrForm},
		{"deleted later", func(x *api.Tree) { x.Nodes[0].Elems[2].Gone = 5 }, api.ErrForm},
		{"deleted later, with its time", func(x *api.Tree) { x.Nodes[0].Elems[2].Gone, x.Nodes[2].Tids[0] = 5, 5 }, api.OK},
		{"not deleted", func(x *api.Tree) { x.Nodes[1].Elems[1].Gone = 0 }, api.OK},
		{"none deleted", func(x *api.Tree) {
			for i := range x.Nodes[1].Elems {
				x.Nodes[1].Elems[i].Gone = 0
			}
		}, api.ErrForm},

		{"records of a key that overlap", func(x *api.Tree) {
			x.Nodes[0].Elems[3] = api.Elem{Key: api.Key{Off: 2}, Made: 4}
			x.Nodes[2].Tids[0] = 4
		}, api.OK},
		{"key in both leaves", func(x *api.Tree) {
			x.Nodes[1].Elems[0] = api.Elem{Key: api.Key{Off: 3}, Made: 2, Gone: 3}
			x.Nodes[2].Seps[0] = sep(3, 2)
		}, api.OK},
		{"spot in both leaves", func(x *api.Tree) { x.Nodes[1].Elems[0] = x.Nodes[0].Elems[3]; x.Nodes[2].Seps[0] = sep(3, 1) }, api.ErrForm},
	} {
		y := shared()
		x.spoil(&y)
		checked(t, x.name, y, x.want)
	}
}

// TestP22CheckOfSmallNodes tries inner nodes and leaves with too few children or records: only the root may be so.
func TestP22CheckOfSmallNodes(t *testing.T) {
	for n := 2; n <= 8; n++ {
		want := api.ErrForm
		if n >= 4 {
			want = api.OK
		}
		checked(t, "leaf of that size", built([]int{n, 4}, []int{2}), want)
		checked(t, "last leaf of that size", built([]int{4, 8, n}, []int{3}), want)
		checked(t, "root with so many leaves", built(times(n, 6), []int{n}), api.OK)
		checked(t, "inner node of that size", built(times(4+n, 4), []int{4, n}, []int{2}), want)
		checked(t, "first inner node of that size", built(times(8+n, 4), []int{n, 4, 4}, []int{3}), want)
		checked(t, "inner node of the second level", built(times(16+4*n, 4), times(4+n, 4), []int{4, n}, []int{2}), want)
	}
}

// lifted makes the first or the last leaf of a tree of three levels a child of the root.
func lifted(x api.Tree, first bool) api.Tree {
	y := cloned(x)
	root := &y.Nodes[y.Root]
	if first {
		low := &y.Nodes[root.Kids[0]]
		root.Kids = append([]int{low.Kids[0]}, root.Kids...)
		root.Seps = append([]api.Spot{low.Seps[0]}, root.Seps...)
		low.Kids, low.Seps, low.Tids = low.Kids[1:], low.Seps[1:], low.Tids[1:]
	} else {
		low := &y.Nodes[root.Kids[len(root.Kids)-1]]
		last := len(low.Kids) - 1
		root.Kids = append(root.Kids, low.Kids[last])
		root.Seps = append(root.Seps, low.Seps[last-1])
		low.Kids, low.Seps, low.Tids = low.Kids[:last], low.Seps[:last-1], low.Tids[:last]
	}
	root.Tids = nil
	for _, kid := range root.Kids {
		root.Tids = append(root.Tids, greatest(below(y, kid)))
	}
	return y
}

// TestP22CheckOfLeavesOnSeveralLevels puts leaves beside inner nodes, with everything else as it must be.
func TestP22CheckOfLeavesOnSeveralLevels(t *testing.T) {
	x := built(times(10, 4), []int{5, 5}, []int{2})
	checked(t, "all leaves on one level", x, api.OK)
	for _, first := range []bool{false, true} {
		y := lifted(x, first)
		for _, c := range conditions() {
			if c.holds(y) == (c.name == "leaves on one level") {
				t.Fatalf("%s: %t in %s", c.name, c.holds(y), described(y))
			}
		}
		checked(t, "a leaf on a higher level", y, api.ErrForm)
	}
}

func TestP22CheckReturnsTheErrorOfANodeFirst(t *testing.T) {
	bad := []struct {
		n    api.Node
		want api.Errno
	}{
		{api.Node{Kind: 3}, api.ErrForm},
		{api.Node{Kids: []int{1}}, api.ErrForm},
		{api.Node{Kind: api.Leaf, Elems: []api.Elem{{Key: api.Key{Pfs: 16}, Made: 1}}}, api.ErrArg},
		{api.Node{Kind: api.Leaf, Elems: []api.Elem{{}}}, api.ErrTid},
		{api.Node{Kind: api.Leaf, Elems: make([]api.Elem, 9)}, api.ErrLarge},
		{api.Node{Kind: api.Inner, Kids: []int{0, 400}, Seps: []api.Spot{sep(7, 1)}, Tids: []int{1, 3}}, api.ErrArg},
		{api.Node{Kind: api.Inner, Kids: []int{0, 1}, Seps: []api.Spot{sep(7, 0)}, Tids: []int{1, 3}}, api.ErrTid},
		{api.Node{Kind: api.Inner, Kids: []int{0, 1}, Seps: []api.Spot{sep(7, 1)}, Tids: []int{-1, 3}}, api.ErrTid},
		{api.Node{Kind: api.Inner, Kids: []int{0, 1}, Seps: []api.Spot{sep(7, 1)}, Tids: []int{1, 1 << 31}}, api.ErrTid},
	}
	for _, b := range bad {
		for i := range 4 {
			x := shared()
			x.Nodes[i] = b.n
			checked(t, "bad node", x, b.want)
			x.Root = -1
			checked(t, "bad node before root", x, b.want)
		}
		x := api.Tree{Nodes: make([]api.Node, 400)}
		checked(t, "400 free nodes", x, api.ErrForm)
		x.Nodes[399] = b.n
		checked(t, "bad last node", x, b.want)
		for _, c := range bad {
			x.Nodes[200] = c.n
			checked(t, "first of two bad nodes", x, c.want)
		}
	}
}

func TestP22CheckOfTooManyNodes(t *testing.T) {
	x := renumbered(shared(), 400, func(i int) int { return 399 - i })
	checked(t, "400 nodes", x, api.OK)
	x.Nodes = append(x.Nodes, api.Node{})
	checked(t, "401 nodes", x, api.ErrLarge)
	x.Nodes[0] = api.Node{Kind: 3}
	checked(t, "401 nodes, a bad one", x, api.ErrLarge)
	x.Root = -1
	checked(t, "401 nodes, a bad one and a bad root", x, api.ErrLarge)
	checked(t, "401 free nodes", api.Tree{Nodes: make([]api.Node, 401)}, api.ErrLarge)
	checked(t, "many nodes", api.Tree{Nodes: make([]api.Node, 1<<16)}, api.ErrLarge)
}

// TestP1NodesOneBelowAnother tries ways that are as long as they can be, and ways without an end.
func TestP1NodesOneBelowAnother(t *testing.T) {
	x := api.Tree{Nodes: make([]api.Node, 400)}
	for i := range x.Nodes {
		x.Nodes[i] = api.Node{Kind: api.Inner, Kids: []int{(i + 1) % 400, (i + 2) % 400}, Seps: []api.Spot{sep(i, 1)}, Tids: []int{0, 0}}
	}
	checked(t, "ring of 400 nodes", x, api.ErrForm)
	for i := range x.Nodes {
		x.Nodes[i].Kids = times(2, i)
	}
	checked(t, "every node its own child", x, api.ErrForm)
	for i := range x.Nodes {
		x.Nodes[i].Kids = times(2, min(i+1, 399))
	}
	x.Nodes[399] = api.Node{Kind: api.Leaf}
	checked(t, "chain of 400 nodes, each twice a child", x, api.ErrForm)
	for i := range 399 {
		x.Nodes[i] = api.Node{}
		if i%2 == 0 {
			x.Nodes[i] = api.Node{Kind: api.Inner, Kids: []int{i + 1, min(i+2, 399)}, Seps: []api.Spot{sep(400-i, 1)}, Tids: []int{0, 0}}
		} else {
			x.Nodes[i] = api.Node{Kind: api.Leaf}
		}
	}
	checked(t, "chain of 200 inner nodes with a leaf each", x, api.ErrForm)
}

func TestP23New(t *testing.T) {
	x := tree.New()
	checked(t, "New", x, api.OK)
	if len(x.Nodes) != 1 || x.Root != 0 {
		t.Errorf("New() = %v, want a tree of one node", x)
	}
	if l, err := tree.All(x); len(l) != 0 || err != api.OK {
		t.Errorf("All(New()) = %v, %d, want no records", l, err)
	}
	if n, err := tree.Depth(x); n != 1 || err != api.OK {
		t.Errorf("Depth(New()) = %d, %d, want 1", n, err)
	}
}

func TestP24All(t *testing.T) {
	for _, x := range samples() {
		var want []api.Elem
		for i := range x.records {
			want = append(want, record(i))
		}
		if got, err := tree.All(x.t); !slices.Equal(got, want) || err != api.OK {
			t.Errorf("%s: All returned %d records, %d, want %d in order", x.name, len(got), err, len(want))
		}
	}
}

func TestP24Depth(t *testing.T) {
	for _, x := range samples() {
		if got, err := tree.Depth(x.t); got != x.depth || err != api.OK {
			t.Errorf("%s: Depth = %d, %d, want %d, OK", x.name, got, err, x.depth)
		}
	}
}

// same compares trees field by field, with what lies in the spare capacity of their slices.
func same(x, y api.Tree) bool {
	return x.Root == y.Root && slices.EqualFunc(x.Nodes[:cap(x.Nodes)], y.Nodes[:cap(y.Nodes)], func(m, n api.Node) bool {
		return m.Kind == n.Kind &&
			slices.Equal(m.Elems[:cap(m.Elems)], n.Elems[:cap(n.Elems)]) &&
			slices.Equal(m.Kids[:cap(m.Kids)], n.Kids[:cap(n.Kids)]) &&
			slices.Equal(m.Seps[:cap(m.Seps)], n.Seps[:cap(n.Seps)]) &&
			slices.Equal(m.Tids[:cap(m.Tids)], n.Tids[:cap(n.Tids)])
	})
}

func TestP2TreesAreNotModified(t *testing.T) {
	for _, x := range samples() {
		for _, root := range []int{x.t.Root, 0, -1} {
			got, want := cloned(x.t), cloned(x.t)
			got.Root, want.Root = root, root
			tree.Check(got)
			tree.All(got)
			tree.Depth(got)
			if !same(got, want) {
				t.Errorf("%s with root %d was modified", x.name, root)
			}
		}
	}
}

func TestP2ResultsShareNothing(t *testing.T) {
	mark := api.Elem{Made: -7}
	for _, x := range samples() {
		arg := cloned(x.t)
		first, _ := tree.All(arg)
		second, _ := tree.All(arg)
		all := first[:cap(first)]
		for i := range all {
			all[i] = mark
		}
		if !same(arg, cloned(x.t)) {
			t.Errorf("%s: a result of All shares memory with the tree", x.name)
		}
		if slices.Contains(second[:cap(second)], mark) {
			t.Errorf("%s: two results of All share memory", x.name)
		}
	}
	x := tree.New()
	x.Nodes[0] = api.Node{Kind: 3}
	if y := tree.New(); tree.Check(y) != api.OK {
		t.Errorf("two results of New share memory: %v", y)
	}
}
