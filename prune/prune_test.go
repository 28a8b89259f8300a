package prune_test

import (
	"fmt"
	"math"
	"slices"
	"strings"
	"testing"

	"annalist/api"
	"annalist/build"
	"annalist/grow"
	"annalist/prune"
	"annalist/run"
	"annalist/shrink"
	"annalist/tree"
	"annalist/write"
)

// history returns a run of n records. Key i has 1 + i%4 of them: some end where the next one begins, some before it,
// and the last one of a key is deleted or not. The times of a key do not follow those of the key before it.
func history(n int) []api.Elem {
	var l []api.Elem
	for i := 0; len(l) < n; i++ {
		k := api.Key{Pfs: i / 40, Obj: i / 8 % 5, Off: 1 + 2*(i%8)}
		made := 2 + i*7%13
		for j := range 1 + i%4 {
			gone := made + 1 + (i+j)%3
			e := api.Elem{Key: k, Made: made, Gone: gone, Val: fmt.Sprint(i, ".", j)}
			if j == i%4 && i%3 > 0 {
				e.Gone = 0
			}
			l = append(l, e)
			made = gone + (i+j)%2
		}
	}
	return l[:n]
}

// versions returns a run of n records of one key, the last of which is not deleted.
func versions(n int) []api.Elem {
	var l []api.Elem
	for i := range n {
		l = append(l, api.Elem{Key: api.Key{Off: 1}, Made: 1 + i, Gone: 2 + i, Val: fmt.Sprint(i)})
	}
	l[n-1].Gone = 0
	return l
}

// deleted returns a run of n records of different keys, all of which are deleted at 7.
func deleted(n int) []api.Elem {
	var l []api.Elem
	for i := range n {
		l = append(l, api.Elem{Key: api.Key{Obj: i / 8, Off: i % 8}, Made: 2 + i%5, Gone: 7})
	}
	return l
}

// present returns a run of n records of different keys, none of which is deleted.
func present(n int) []api.Elem {
	l := deleted(n)
	for i := range l {
		l[i].Gone = 0
	}
	return l
}

// samples returns runs.
func samples() [][]api.Elem {
	l := [][]api.Elem{nil, versions(1), versions(9), versions(400), deleted(1), deleted(40), deleted(400), present(40), present(400)}
	for _, n := range []int{1, 5, 8, 20, 65, 201, 400} {
		l = append(l, history(n))
	}
	return l
}

// keeps returns times to keep: none, each one up to 25, several in any order, some twice, and as many as there may be.
func keeps() [][]int {
	k := [][]int{nil, {}, {math.MaxInt32}, {0, math.MaxInt32}, {3, 9}, {9, 3}, {5, 5, 5}, {0, 6, 6, 20, 1}}
	for tid := range 26 {
		k = append(k, []int{tid})
	}
	many := []int{}
	for i := range 20 {
		many = append(many, i*7%23)
	}
	return append(k, many, make([]int, 20))
}

// retained reports whether a record is not deleted, or one of the times is among those from Made up to but not at Gone.
func retained(e api.Elem, keep []int) bool {
	if e.Gone == 0 {
		return true
	}
	for _, tid := range keep {
		if e.Made <= tid && tid < e.Gone {
			return true
		}
	}
	return false
}

// without returns records but the first n that are not retained, and how many these are.
func without(l []api.Elem, keep []int, n int) ([]api.Elem, int) {
	var rest []api.Elem
	removed := 0
	for _, e := range l {
		if retained(e, keep) || removed == n {
			rest = append(rest, e)
		} else {
			removed++
		}
	}
	return rest, removed
}

// kept fails the test unless Kept returns these records.
func kept(t *testing.T, l []api.Elem, keep []int, want []api.Elem) {
	t.Helper()
	if got, err := prune.Kept(l, keep); !slices.Equal(got, want) || err != api.OK {
		t.Fatalf("Kept(%v, %v) = %v, %d, want %v", l, keep, got, err, want)
	}
}

// notKept fails the test unless Kept returns only this error.
func notKept(t *testing.T, name string, l []api.Elem, keep []int, want api.Errno) {
	t.Helper()
	if got, err := prune.Kept(l, keep); len(got) != 0 || err != want {
		t.Fatalf("%s: Kept of %d records, %v = %v, %d, want none and %d", name, len(l), keep, got, err, want)
	}
}

func TestP36Kept(t *testing.T) {
	for _, l := range samples() {
		for _, keep := range keeps() {
			want, _ := without(l, keep, math.MaxInt)
			kept(t, l, keep, want)
		}
	}
}

// TestP36OneRecord tries all times of a record and all times to keep beside them.
func TestP36OneRecord(t *testing.T) {
	for made := 1; made < 6; made++ {
		for gone := made + 1; gone < 8; gone++ {
			for tid := range 9 {
				l := []api.Elem{{Made: made, Gone: gone, Val: "x"}}
				if tid < made || tid >= gone {
					kept(t, l, []int{tid}, nil)
					kept(t, l, []int{made - 1, tid, gone}, nil)
				} else {
					kept(t, l, []int{tid}, l)
					kept(t, l, []int{gone, tid, made - 1}, l)
				}
			}
		}
		l := []api.Elem{{Made: made, Val: "not deleted"}}
		kept(t, l, nil, l)
		kept(t, l, []int{made - 1}, l)
	}
	l := []api.Elem{{Made: math.MaxInt32 - 1, Gone: math.MaxInt32}, {Made: math.MaxInt32}}
	kept(t, l, []int{math.MaxInt32}, l[1:])
	kept(t, l, []int{math.MaxInt32 - 1}, l)
	kept(t, l, []int{math.MaxInt32 - 2}, l[1:])
}

func TestP36TheExample(t *testing.T) {
	k := api.Key{Obj: 4}
	l := []api.Elem{{Key: k, Made: 1, Gone: 2, Val: "a"}, {Key: k, Made: 2, Gone: 3, Val: "b"}, {Key: k, Made: 3, Gone: 5, Val: "c"}, {Key: k, Made: 8, Val: "d"}}
	kept(t, l, []int{2}, []api.Elem{l[1], l[3]})
	kept(t, l, []int{3}, []api.Elem{l[2], l[3]})
	kept(t, l, []int{4, 1}, []api.Elem{l[0], l[2], l[3]})
	kept(t, l, []int{5, 7, 8}, []api.Elem{l[3]})
}

// TestP36WhatStaysVisible: at the times that are kept, and from the last time of the run on, what is visible remains so.
func TestP36WhatStaysVisible(t *testing.T) {
	for _, l := range samples() {
		last, _ := run.Last(l)
		for _, keep := range keeps() {
			got, _ := prune.Kept(l, keep)
			for _, tid := range append([]int{last, last + 1, math.MaxInt32}, keep...) {
				before, _ := run.Range(l, api.Key{}, api.Key{Pfs: 15}, tid)
				after, err := run.Range(got, api.Key{}, api.Key{Pfs: 15}, tid)
				if !slices.Equal(before, after) || err != api.OK {
					t.Fatalf("at %d of %v %v is visible after Kept, %d, before it was %v", tid, keep, after, err, before)
				}
			}
		}
	}
}

// badKeeps returns times that are not valid to keep, with the error.
func badKeeps() map[api.Errno][][]int {
	twenty := slices.Repeat([]int{1}, 20)
	late := slices.Clone(twenty)
	late[19] = -1
	return map[api.Errno][][]int{
		api.ErrLarge: {append(slices.Clone(twenty), 1), append(slices.Clone(late), 1), append(slices.Clone(twenty), -1), make([]int, 21), slices.Repeat([]int{math.MinInt}, 1000)},
		api.ErrTid:   {{-1}, {math.MaxInt32 + 1}, {math.MinInt}, {math.MaxInt}, {3, -1, 4}, {0, math.MaxInt32, math.MaxInt32 + 1}, late, {1 << 32}},
	}
}

func TestP36InvalidTimes(t *testing.T) {
	for want, l := range badKeeps() {
		for _, keep := range l {
			for _, x := range samples() {
				notKept(t, "invalid times", x, keep, want)
			}
		}
	}
}

// notRuns returns what run.Check rejects, with its error.
func notRuns() map[string]struct {
	l    []api.Elem
	want api.Errno
} {
	type sample = struct {
		l    []api.Elem
		want api.Errno
	}
	return map[string]sample{
		"401 records":                {present(401), api.ErrLarge},
		"401 invalid records":        {make([]api.Elem, 401), api.ErrLarge},
		"invalid key":                {[]api.Elem{{Key: api.Key{Pfs: 16}, Made: 1}}, api.ErrArg},
		"invalid time":               {[]api.Elem{{Made: 1}, {Made: 0}}, api.ErrTid},
		"deleted when created":       {[]api.Elem{{Made: 3, Gone: 3}}, api.ErrTid},
		"value too long":             {[]api.Elem{{Made: 3, Gone: 4, Val: strings.Repeat("x", 41)}}, api.ErrLarge},
		"not in order":               {[]api.Elem{{Made: 3, Gone: 4}, {Made: 2, Gone: 3}}, api.ErrForm},
		"one spot twice":             {[]api.Elem{{Made: 3, Gone: 4}, {Made: 3, Gone: 4}}, api.ErrForm},
		"not deleted before next":    {[]api.Elem{{Made: 3}, {Made: 5}}, api.ErrForm},
		"deleted after next created": {[]api.Elem{{Made: 3, Gone: 6}, {Made: 5, Gone: 7}}, api.ErrForm},
	}
}

func TestP36InvalidRunsFirst(t *testing.T) {
	for name, x := range notRuns() {
		for _, l := range badKeeps() {
			for _, keep := range append(l, nil, []int{4}) {
				notKept(t, name, x.l, keep, x.want)
			}
		}
	}
}

// spot returns the spot of a record.
func spot(e api.Elem) api.Spot {
	return api.Spot{Key: e.Key, Made: e.Made}
}

// grown is a tree into which records were inserted in the order that a factor gives.
func grown(t *testing.T, l []api.Elem, factor int) api.Tree {
	t.Helper()
	const prime = 401
	x := tree.New()
	for i := range prime - 1 {
		j := (i+1)*factor%prime - 1
		if j >= len(l) {
			continue
		}
		var err api.Errno
		if x, err = grow.Insert(x, l[j]); err != api.OK {
			t.Fatalf("Insert: %d", err)
		}
	}
	return x
}

// loose is a tree with free nodes: beside these records there were others.
func loose(t *testing.T, l []api.Elem) api.Tree {
	t.Helper()
	others := deleted(400 - len(l))
	for i := range others {
		others[i].Key.Pfs = 15
	}
	x := grown(t, slices.Concat(l, others), 57)
	for _, e := range others {
		var err api.Errno
		if x, err = shrink.Remove(x, spot(e)); err != api.OK {
			t.Fatalf("Remove: %d", err)
		}
	}
	return x
}

// shapes returns trees of these records.
func shapes(t *testing.T, l []api.Elem) []api.Tree {
	t.Helper()
	packed, _ := build.Of(l)
	trees := []api.Tree{packed, grown(t, l, 1), grown(t, l, 400), grown(t, l, 57), loose(t, l)}
	spare := cloned(packed)
	spare.Nodes = append(spare.Nodes, make([]api.Node, 400-len(spare.Nodes))...)
	trees = append(trees, spare)
	for _, x := range trees {
		if got, err := tree.All(x); !slices.Equal(got, l) || err != api.OK {
			t.Fatalf("the sample is no tree of %v: %d", l, err)
		}
	}
	return trees
}

// steps fails the test unless Step returns a tree of the expected records. It returns this tree.
func steps(t *testing.T, x api.Tree, keep []int, n int) (api.Tree, int) {
	t.Helper()
	l, _ := tree.All(x)
	want, removed := without(l, keep, n)
	got, count, err := prune.Step(x, keep, n)
	rest, bad := tree.All(got)
	if err != api.OK || bad != api.OK || count != removed || !slices.Equal(rest, want) {
		t.Fatalf("Step of %v, %v, %d = %v, %d, %d (tree.All: %d), want %v, %d", l, keep, n, rest, count, err, bad, want, removed)
	}
	// The fewest records of a tree with so many levels: two children of the root, four in each other node.
	most := 1
	for fewest := 8; fewest <= len(want); fewest *= 4 {
		most++
	}
	if depth, _ := tree.Depth(got); depth > most {
		t.Fatalf("Step of %v, %v, %d: depth %d with %d records, want at most %d", l, keep, n, depth, len(want), most)
	}
	return got, count
}

// refused fails the test unless Step returns only this error.
func refused(t *testing.T, name string, x api.Tree, keep []int, n int, want api.Errno) {
	t.Helper()
	if got, count, err := prune.Step(x, keep, n); got.Root != 0 || len(got.Nodes) != 0 || count != 0 || err != want {
		t.Fatalf("%s: Step(.., %v, %d) = %v, %d, %d, want no tree and %d", name, keep, n, got, count, err, want)
	}
}

func TestP37Step(t *testing.T) {
	for _, l := range samples() {
		for _, x := range shapes(t, l) {
			for i, keep := range keeps() {
				for _, n := range []int{i % 7, i * 5, len(l) - i, math.MaxInt} {
					steps(t, x, keep, max(n, 0))
				}
			}
		}
	}
}

// TestP37EachNumber tries each number of records, up to more than there are.
func TestP37EachNumber(t *testing.T) {
	for _, l := range [][]api.Elem{history(65), versions(40), deleted(30), present(9), nil} {
		for _, x := range shapes(t, l) {
			for n := range len(l) + 3 {
				for _, keep := range [][]int{nil, {6}, {4, 11}} {
					steps(t, x, keep, n)
				}
			}
		}
	}
}

// TestP37StepByStep prunes until there is nothing left to remove: then the records are those of Kept.
func TestP37StepByStep(t *testing.T) {
	for _, l := range samples() {
		for _, keep := range [][]int{nil, {5}, {3, 16}} {
			for _, n := range []int{1, 3, 8, 100} {
				if n < 8 && len(l) > 250 {
					continue
				}
				x := grown(t, l, 57)
				for count := n; count == n; {
					x, count = steps(t, x, keep, n)
				}
				got, _ := tree.All(x)
				kept(t, l, keep, got)
				if _, count := steps(t, x, keep, math.MaxInt); count != 0 {
					t.Fatalf("%d more records were removed", count)
				}
			}
		}
	}
}

// TestP37Writable: a tree that was pruned is written to like the run that was.
func TestP37Writable(t *testing.T) {
	for _, l := range samples() {
		l, _ = prune.Kept(l, []int{4})
		for _, x := range shapes(t, l) {
			x, _, _ = prune.Step(x, []int{8}, 6)
			records, _ := tree.All(x)
			last, _ := run.Last(records)
			for off := range 8 {
				k := api.Key{Off: off}
				want, wantErr := run.Put(records, k, "new", last+1)
				y, err := write.Put(x, k, "new", last+1)
				got, _ := tree.All(y)
				if !slices.Equal(got, want) || err != wantErr {
					t.Fatalf("Put of %v = %v, %d, want %v, %d", k, got, err, want, wantErr)
				}
			}
		}
	}
}

func TestP37NegativeNumbers(t *testing.T) {
	for _, l := range samples() {
		x, _ := build.Of(l)
		for _, keep := range keeps() {
			for _, n := range []int{-1, -2, math.MinInt32, math.MinInt} {
				refused(t, "negative", x, keep, n, api.ErrArg)
			}
		}
	}
}

// TestP37InvalidTimes: the error of keep comes before that of the number.
func TestP37InvalidTimes(t *testing.T) {
	for _, l := range samples() {
		x, _ := build.Of(l)
		for want, bad := range badKeeps() {
			for _, keep := range bad {
				for _, n := range []int{math.MinInt, -1, 0, 1, math.MaxInt} {
					refused(t, "invalid times", x, keep, n, want)
				}
			}
		}
	}
}

// twice is a valid tree of 2*n records, whose two halves have n each and their roots at least four children.
func twice(n int) api.Tree {
	first, second := present(n), present(n)
	for i := range second {
		second[i].Key.Pfs = 1
	}
	a, _ := build.Of(first)
	b, _ := build.Of(second)
	for _, x := range b.Nodes {
		for i := range x.Kids {
			x.Kids[i] += len(a.Nodes)
		}
	}
	top := api.Node{Kind: api.Inner, Kids: []int{a.Root, len(a.Nodes) + b.Root}, Seps: []api.Spot{spot(second[0])}, Tids: []int{6, 6}}
	nodes := slices.Concat(a.Nodes, b.Nodes, []api.Node{top})
	return api.Tree{Root: len(nodes) - 1, Nodes: nodes}
}

// TestP37InvalidTreesFirst: the error of the tree, and then that of its records, comes before all others.
func TestP37InvalidTreesFirst(t *testing.T) {
	leaf := func(e ...api.Elem) api.Tree { return api.Tree{Nodes: []api.Node{{Kind: api.Leaf, Elems: e}}} }
	wrong := func(n int, f func(x *api.Tree)) api.Tree {
		x := twice(n)
		f(&x)
		return x
	}
	overlap, _ := build.Of(append([]api.Elem{{Made: 1, Gone: 4}, {Made: 3, Gone: 5}}, present(30)[1:]...))
	for _, x := range []struct {
		name string
		t    api.Tree
		want api.Errno
	}{
		{"no nodes", api.Tree{}, api.ErrForm},
		{"401 nodes", api.Tree{Nodes: make([]api.Node, 401)}, api.ErrLarge},
		{"free nodes", api.Tree{Nodes: make([]api.Node, 400)}, api.ErrForm},
		{"root does not exist", api.Tree{Root: 1, Nodes: tree.New().Nodes}, api.ErrForm},
		{"unknown kind", api.Tree{Nodes: []api.Node{{Kind: 3}}}, api.ErrForm},
		{"nine records", leaf(make([]api.Elem, 9)...), api.ErrLarge},
		{"invalid key", leaf(api.Elem{Key: api.Key{Off: -1}, Made: 1}), api.ErrArg},
		{"invalid time", leaf(api.Elem{}), api.ErrTid},
		{"records not in order", leaf(api.Elem{Made: 2}, api.Elem{Made: 1}), api.ErrForm},
		{"wrong time", wrong(100, func(x *api.Tree) { x.Nodes[x.Root].Tids[0]++ }), api.ErrForm},
		{"root is its child", wrong(100, func(x *api.Tree) { x.Nodes[x.Root].Kids[0] = x.Root }), api.ErrForm},
		{"deleted after the next was created", overlap, api.ErrForm},
		{"not deleted before the next was created", leaf(api.Elem{Made: 1}, api.Elem{Made: 3}), api.ErrForm},
		{"402 records", twice(201), api.ErrLarge},
		{"800 records", twice(400), api.ErrLarge},
		{"800 records, wrong time", wrong(400, func(x *api.Tree) { x.Nodes[x.Root].Tids[0]++ }), api.ErrForm},
	} {
		for _, n := range []int{math.MinInt, -1, 0, 5, math.MaxInt} {
			refused(t, x.name, x.t, []int{4}, n, x.want)
			for _, l := range badKeeps() {
				for _, keep := range l {
					refused(t, x.name, x.t, keep, n, x.want)
				}
			}
		}
	}
	steps(t, twice(200), nil, 9)
}

// cloned copies a tree into slices with capacity to spare.
func cloned(x api.Tree) api.Tree {
	c := api.Tree{Root: x.Root, Nodes: make([]api.Node, 0, len(x.Nodes)+2)}
	for _, n := range x.Nodes {
		c.Nodes = append(c.Nodes, api.Node{
			Kind:  n.Kind,
			Elems: append(make([]api.Elem, 0, 12), n.Elems...),
			Kids:  append(make([]int, 0, 12), n.Kids...),
			Seps:  append(make([]api.Spot, 0, 12), n.Seps...),
			Tids:  append(make([]int, 0, 12), n.Tids...),
		})
	}
	return c
}

// same compares trees field by field, with what lies in the spare capacity of their slices.
func same(x, y api.Tree) bool {
	return x.Root == y.Root && slices.EqualFunc(x.Nodes[:cap(x.Nodes)], y.Nodes[:cap(y.Nodes)], func(m, n api.Node) bool {
		return m.Kind == n.Kind &&
			slices.Equal(m.Elems[:cap(m.Elems)], n.Elems[:cap(n.Elems)]) &&
			slices.Equal(m.Kids[:cap(m.Kids)], n.Kids[:cap(n.Kids)]) &&
			slices.Equal(m.Seps[:cap(m.Seps)], n.Seps[:cap(n.Seps)]) &&
			slices.Equal(m.Tids[:cap(m.Tids)], n.Tids[:cap(n.Tids)])
	})
}

// spoil writes over all memory of a tree. What has been written over before is found again.
func spoil(t *testing.T, x api.Tree) {
	t.Helper()
	x.Nodes = x.Nodes[:cap(x.Nodes)]
	for i := range x.Nodes {
		n := &x.Nodes[i]
		if n.Kind == -7 {
			t.Fatal("nodes share memory")
		}
		n.Kind = -7
		fill(t, n.Elems, api.Elem{Made: -7})
		fill(t, n.Kids, -7)
		fill(t, n.Seps, api.Spot{Made: -7})
		fill(t, n.Tids, -7)
	}
}

// fill writes over a slice and its spare capacity.
func fill[E comparable](t *testing.T, l []E, mark E) {
	t.Helper()
	l = l[:cap(l)]
	if slices.Contains(l, mark) {
		t.Fatal("slices share memory")
	}
	for i := range l {
		l[i] = mark
	}
}

// spare copies a slice into one with capacity to spare.
func spare[E any](l []E) []E {
	return append(make([]E, 0, len(l)+3), l...)
}

// equal compares slices with what lies in their spare capacity.
func equal[E comparable](x, y []E) bool {
	return slices.Equal(x[:cap(x)], y[:cap(y)])
}

func TestP2RunsAreNotModifiedNorShared(t *testing.T) {
	for _, l := range samples() {
		for _, keep := range keeps() {
			arg, times := spare(l), spare(keep)
			for range 2 {
				got, _ := prune.Kept(arg, times)
				fill(t, got, api.Elem{Made: -7})
			}
			if !equal(arg, spare(l)) || !equal(times, spare(keep)) {
				t.Fatalf("Kept of %v, %v modified an argument, or its result shares memory with it", l, keep)
			}
		}
	}
}

// TestP2TreesAreNotModifiedNorShared includes calls of Step that remove nothing: their result is new memory, too.
func TestP2TreesAreNotModifiedNorShared(t *testing.T) {
	for _, l := range samples() {
		for _, x := range shapes(t, l) {
			for _, keep := range [][]int{nil, {6}, {3, 8, 12}} {
				for _, n := range []int{0, 1, 40, 400} {
					arg, times := cloned(x), spare(keep)
					for range 2 {
						got, _, _ := prune.Step(arg, times, n)
						spoil(t, got)
					}
					if !same(arg, cloned(x)) || !equal(times, spare(keep)) {
						t.Fatalf("Step of %v, %v, %d modified an argument, or its result shares memory with it", l, keep, n)
					}
				}
			}
		}
	}
}
