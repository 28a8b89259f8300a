package past_test

import (
	"fmt"
	"math"
	"slices"
	"strings"
	"testing"

	"annalist/api"
	"annalist/grow"
	"annalist/past"
	"annalist/tree"
)

// history returns a run of n records. Key i has 1 + i%4 of them: some end where the next one begins, some before it,
// and the last one of a key is deleted or not. The times of a key do not follow those of the key before it.
func history(n int) []api.Elem {
	var l []api.Elem
	for i := 0; len(l) < n; i++ {
		k := api.Key{Pfs: i / 40, Obj: i / 8 % 5, Off: 1 + 2*(i%8)}
		made := 2 + i*7%13
		for j := range 1 + i%4 {
			gone := made + 1 + (i+j)%3
			e := api.Elem{Key: k, Made: made, Gone: gone, Val: fmt.Sprint(i, ".", j)}
			if j == i%4 && i%3 > 0 {
				e.Gone = 0
			}
			l = append(l, e)
			made = gone + (i+j)%2
		}
	}
	return l[:n]
}

// spot returns the spot of a record.
func spot(e api.Elem) api.Spot {
	return api.Spot{Key: e.Key, Made: e.Made}
}

// built is a tree of records, in leaves with these numbers of them and levels of inner nodes with these numbers of
// children, from the lowest level to the root. A separator is the first spot after it or, if low, the least there may be.
func built(l []api.Elem, low bool, leaves []int, levels ...[]int) api.Tree {
	var t api.Tree
	var level []int
	for _, n := range leaves {
		level = append(level, len(t.Nodes))
		t.Nodes = append(t.Nodes, api.Node{Kind: api.Leaf, Elems: l[:n]})
		l = l[n:]
	}
	for _, sizes := range levels {
		var above []int
		for _, n := range sizes {
			above = append(above, len(t.Nodes))
			t.Nodes = append(t.Nodes, over(t, level[:n], low))
			level = level[n:]
		}
		level = above
	}
	t.Root = level[0]
	return cloned(t)
}

// over is an inner node with these children.
func over(t api.Tree, kids []int, low bool) api.Node {
	x := api.Node{Kind: api.Inner, Kids: kids}
	for i, kid := range kids {
		l := below(t, kid)
		if i > 0 && low {
			left := below(t, kids[i-1])
			s := spot(left[len(left)-1])
			s.Made++
			x.Seps = append(x.Seps, s)
		} else if i > 0 {
			x.Seps = append(x.Seps, spot(l[0]))
		}
		x.Tids = append(x.Tids, greatest(l))
	}
	return x
}

// below returns the records in the subtree of node i.
func below(t api.Tree, i int) []api.Elem {
	l := slices.Clone(t.Nodes[i].Elems)
	for _, kid := range t.Nodes[i].Kids {
		l = append(l, below(t, kid)...)
	}
	return l
}

// greatest returns the greatest time of records.
func greatest(l []api.Elem) int {
	t := 0
	for _, e := range l {
		t = max(t, e.Made, e.Gone)
	}
	return t
}

// cloned copies a tree into slices with capacity to spare.
func cloned(t api.Tree) api.Tree {
	c := api.Tree{Root: t.Root, Nodes: make([]api.Node, 0, len(t.Nodes)+2)}
	for _, n := range t.Nodes {
		c.Nodes = append(c.Nodes, api.Node{
			Kind:  n.Kind,
			Elems: append(make([]api.Elem, 0, 12), n.Elems...),
			Kids:  append(make([]int, 0, 12), n.Kids...),
			Seps:  append(make([]api.Spot, 0, 12), n.Seps...),
			Tids:  append(make([]int, 0, 12), n.Tids...),
		})
	}
	return c
}

// renumbered is a tree of size nodes in which node i has the number to(i), and the others are free.
func renumbered(t api.Tree, size int, to func(i int) int) api.Tree {
	r := api.Tree{Root: to(t.Root), Nodes: make([]api.Node, size)}
	for i, n := range cloned(t).Nodes {
		for j, kid := range n.Kids {
			n.Kids[j] = to(kid)
		}
		r.Nodes[to(i)] = n
	}
	return r
}

// times repeats a number.
func times(n, x int) []int {
	return slices.Repeat([]int{x}, n)
}

// sample is a tree with its name, and what past.Check says of it.
type sample struct {
	name string
	t    api.Tree
	want api.Errno
}

// runs returns trees whose records are runs, of several shapes.
func runs(t *testing.T) []sample {
	t.Helper()
	var l []sample
	for _, low := range []bool{false, true} {
		for _, x := range []sample{
			{name: "no records", t: built(nil, low, []int{0})},
			{name: "one record", t: built(history(1), low, []int{1})},
			{name: "one leaf", t: built(history(8), low, []int{8})},
			{name: "two leaves", t: built(history(9), low, []int{5, 4}, []int{2})},
			{name: "eight leaves", t: built(history(44), low, []int{4, 8, 5, 4, 7, 6, 4, 6}, []int{8})},
			{name: "three levels", t: built(history(60), low, times(12, 5), []int{4, 4, 4}, []int{3})},
			{name: "four levels", t: built(history(130), low, append(times(31, 4), 6), times(8, 4), []int{4, 4}, []int{2})},
			{name: "400 records", t: built(history(400), low, times(50, 8), times(10, 5), []int{5, 5}, []int{2})},
		} {
			n := len(x.t.Nodes)
			l = append(l,
				sample{name: fmt.Sprint(x.name, ", low separators: ", low), t: x.t},
				sample{name: fmt.Sprint(x.name, ", low separators: ", low, ", between free nodes"), t: renumbered(x.t, 2*n+1, func(i int) int { return 2*(n-i) - 1 })})
		}
	}
	for _, x := range l {
		mustBeTree(t, x)
	}
	return l
}

// mustBeTree fails the test if a sample is wrong.
func mustBeTree(t *testing.T, x sample) {
	t.Helper()
	if err := tree.Check(x.t); err != api.OK {
		t.Fatalf("%s: the sample is no tree: %d", x.name, err)
	}
}

// changed is a tree of 60 records of which some were changed.
func changed(f func(l []api.Elem)) api.Tree {
	l := history(60)
	f(l)
	return built(l, false, times(12, 5), []int{4, 4, 4}, []int{3})
}

// notRuns returns trees that are valid but whose records are no run.
func notRuns(t *testing.T) []sample {
	t.Helper()
	var many []api.Elem
	for i := range 512 {
		many = append(many, api.Elem{Key: api.Key{Off: i}, Made: 1})
	}
	endless := slices.Clone(many)
	endless[9].Key = endless[8].Key
	endless[9].Made = 2
	versions := func(gone int) api.Tree {
		return built([]api.Elem{{Made: 1, Gone: gone}, {Made: 4}}, false, []int{2})
	}
	l := []sample{
		{"not deleted before the next", versions(0), api.ErrForm},
		{"deleted after the next was made", versions(5), api.ErrForm},
		// Records 3 to 5 are of one key and 6 to 9 of the next one; the second leaf has records 5 to 9.
		{"not deleted before the next, in one leaf", changed(func(l []api.Elem) { l[6].Gone = 0 }), api.ErrForm},
		{"not deleted before the next, in the next leaf", changed(func(l []api.Elem) { l[4].Gone = 0 }), api.ErrForm},
		{"deleted late, in one leaf", changed(func(l []api.Elem) { l[6].Gone = l[7].Made + 1 }), api.ErrForm},
		{"deleted late, in the next leaf", changed(func(l []api.Elem) { l[4].Gone = l[5].Made + 1 }), api.ErrForm},
		{"not deleted before the next, at the end", changed(func(l []api.Elem) { l[59].Key, l[59].Made, l[58].Gone = l[58].Key, l[58].Made+1, 0 }), api.ErrForm},
		{"401 records", built(many, false, append(times(49, 8), 5, 4), append(times(5, 8), 6, 5), []int{7}), api.ErrLarge},
		{"512 records", built(many, true, times(64, 8), times(8, 8), []int{8}), api.ErrLarge},
		{"512 records, not deleted before the next", built(endless, false, times(64, 8), times(8, 8), []int{8}), api.ErrLarge},
	}
	for _, x := range l {
		mustBeTree(t, x)
	}
	return l
}

// notTrees returns what is no tree, with the error of tree.Check. The records of some are no run either.
func notTrees() []sample {
	leaf := func(e ...api.Elem) api.Tree { return api.Tree{Nodes: []api.Node{{Kind: api.Leaf, Elems: e}}} }
	wrong := func(f func(x *api.Tree)) api.Tree {
		x := built(history(9), false, []int{4, 5}, []int{2})
		f(&x)
		return x
	}
	var many []api.Elem
	for i := range 512 {
		many = append(many, api.Elem{Key: api.Key{Off: i}, Made: 1})
	}
	full := built(many, false, times(64, 8), times(8, 8), []int{8})
	full.Nodes[0].Kind = api.Free
	alone := built(many, false, times(64, 8), times(8, 8), []int{8})
	alone.Nodes = append(alone.Nodes, api.Node{Kind: api.Leaf})
	late := built(many, false, times(64, 8), times(8, 8), []int{8})
	late.Nodes[63].Elems[7].Made = 0
	return []sample{
		{"no nodes", api.Tree{}, api.ErrForm},
		{"401 nodes", api.Tree{Nodes: make([]api.Node, 401)}, api.ErrLarge},
		{"free nodes", api.Tree{Nodes: make([]api.Node, 400)}, api.ErrForm},
		{"root -1", api.Tree{Root: -1, Nodes: tree.New().Nodes}, api.ErrForm},
		{"root does not exist", api.Tree{Root: 1, Nodes: tree.New().Nodes}, api.ErrForm},
		{"unknown kind", api.Tree{Nodes: []api.Node{{Kind: 3}}}, api.ErrForm},
		{"nine records", leaf(make([]api.Elem, 9)...), api.ErrLarge},
		{"invalid key", leaf(api.Elem{Key: api.Key{Off: -1}, Made: 1}), api.ErrArg},
		{"invalid time", leaf(api.Elem{}), api.ErrTid},
		{"deleted when created", leaf(api.Elem{Made: 3, Gone: 3}), api.ErrTid},
		{"value too long", leaf(api.Elem{Made: 1, Val: strings.Repeat("x", 41)}), api.ErrLarge},
		{"records not in order", leaf(history(2)[1], history(2)[0]), api.ErrForm},
		{"wrong time", wrong(func(x *api.Tree) { x.Nodes[2].Tids[0]++ }), api.ErrForm},
		{"wrong separator", wrong(func(x *api.Tree) { x.Nodes[2].Seps[0].Key.Pfs = 9 }), api.ErrForm},
		{"root is its child", wrong(func(x *api.Tree) { x.Nodes[2].Kids[0] = 2 }), api.ErrForm},
		{"child does not exist", wrong(func(x *api.Tree) { x.Nodes[2].Kids[0] = 3 }), api.ErrForm},
		{"child cannot exist", wrong(func(x *api.Tree) { x.Nodes[2].Kids[0] = 400 }), api.ErrArg},
		{"leaf too small", built(history(7), false, []int{3, 4}, []int{2}), api.ErrForm},
		{"too many records, one node invalid", full, api.ErrForm},
		{"too many records, one node without a place", alone, api.ErrForm},
		{"too many records, the last one invalid", late, api.ErrTid},
	}
}

func TestP30CheckAcceptsRuns(t *testing.T) {
	for _, x := range runs(t) {
		if err := past.Check(x.t); err != api.OK {
			t.Errorf("%s: Check = %d, want OK", x.name, err)
		}
	}
}

func TestP30CheckRejectsOthers(t *testing.T) {
	for _, x := range slices.Concat(notTrees(), notRuns(t)) {
		if err := past.Check(x.t); err != x.want {
			t.Errorf("%s: Check = %d, want %d", x.name, err, x.want)
		}
	}
}

// TestP30CheckOfTwoVersions tries all times of two records of one key, in one leaf and in two.
func TestP30CheckOfTwoVersions(t *testing.T) {
	for made := range 7 {
		for gone := range 7 {
			x := api.Elem{Key: api.Key{Off: 3}, Made: 2, Gone: gone}
			y := api.Elem{Key: api.Key{Off: 3}, Made: made}
			want := api.OK
			switch {
			case gone > 0 && gone <= 2 || made == 0:
				want = api.ErrTid
			case made <= 2 || gone == 0 || gone > made:
				want = api.ErrForm
			}
			l := []api.Elem{{Made: 1}, {Key: api.Key{Off: 1}, Made: 1}, {Key: api.Key{Off: 2}, Made: 1}, x,
				y, {Key: api.Key{Off: 4}, Made: 1}, {Key: api.Key{Off: 5}, Made: 1}, {Key: api.Key{Off: 6}, Made: 1}}
			for _, z := range []api.Tree{built(l, false, []int{8}), built(l, false, []int{4, 4}, []int{2})} {
				if err := past.Check(z); err != want {
					t.Errorf("deleted at %d, again created at %d, in %d nodes: Check = %d, want %d", gone, made, len(z.Nodes), err, want)
				}
			}
		}
	}
}

// live reports whether a record is live at tid.
func live(e api.Elem, tid int) bool {
	return e.Made <= tid && (e.Gone == 0 || tid < e.Gone)
}

// less reports whether a key is less than another.
func less(a, b api.Key) bool {
	if a.Pfs != b.Pfs {
		return a.Pfs < b.Pfs
	}
	if a.Obj != b.Obj {
		return a.Obj < b.Obj
	}
	return a.Off < b.Off
}

// moments returns all times at which something happens to records, those beside them, and some that are no times.
func moments(l []api.Elem) []int {
	tids := []int{math.MinInt, math.MinInt32, -1, math.MaxInt32, math.MaxInt32 + 1, math.MaxInt}
	for tid := range greatest(l) + 3 {
		tids = append(tids, tid)
	}
	return tids
}

// keys returns n of the keys of records and of those beside them, and the least and the greatest one.
func keys(l []api.Elem, n int) []api.Key {
	r := []api.Key{{}, {Pfs: 15, Obj: 1 << 20, Off: 1 << 30}}
	for i := 0; i < len(l); i += 1 + len(l)/n {
		k := l[i].Key
		r = append(r, k, api.Key{Pfs: k.Pfs, Obj: k.Obj, Off: k.Off - 1}, api.Key{Pfs: k.Pfs, Obj: k.Obj, Off: k.Off + 1}, api.Key{Pfs: k.Pfs, Obj: k.Obj + 1})
	}
	return r
}

// found fails the test unless At returns what is expected.
func found(t *testing.T, name string, x api.Tree, k api.Key, tid int, want api.Elem, wantErr api.Errno) {
	t.Helper()
	if got, err := past.At(x, k, tid); got != want || err != wantErr {
		t.Fatalf("%s: At %v, %d = %v, %d, want %v, %d", name, k, tid, got, err, want, wantErr)
	}
}

// ranged fails the test unless Range returns what is expected.
func ranged(t *testing.T, name string, x api.Tree, lo, hi api.Key, tid int, want []api.Elem, wantErr api.Errno) {
	t.Helper()
	if got, err := past.Range(x, lo, hi, tid); !slices.Equal(got, want) || err != wantErr {
		t.Fatalf("%s: Range %v to %v, %d = %v, %d, want %v, %d", name, lo, hi, tid, got, err, want, wantErr)
	}
}

func TestP31At(t *testing.T) {
	for _, x := range runs(t) {
		l := below(x.t, x.t.Root)
		for _, k := range keys(l, 12) {
			for _, tid := range moments(l) {
				want, wantErr := api.Elem{}, api.ErrNone
				if i := slices.IndexFunc(l, func(e api.Elem) bool { return e.Key == k && live(e, tid) }); i >= 0 {
					want, wantErr = l[i], api.OK
				}
				found(t, x.name, x.t, k, tid, want, wantErr)
			}
		}
	}
}

func TestP31Range(t *testing.T) {
	for _, x := range runs(t) {
		l := below(x.t, x.t.Root)
		some := keys(l, 3)
		for _, lo := range some {
			for _, hi := range some {
				for i, tid := range moments(l) {
					if len(l) > 100 && i%7 > 0 {
						continue
					}
					var want []api.Elem
					for _, e := range l {
						if !less(e.Key, lo) && !less(hi, e.Key) && live(e, tid) {
							want = append(want, e)
						}
					}
					ranged(t, x.name, x.t, lo, hi, tid, want, api.OK)
				}
			}
		}
	}
}

func TestP31WrittenAtFourAndFourteen(t *testing.T) {
	k := api.Key{Off: 3}
	first := api.Elem{Key: k, Made: 4, Gone: 14, Val: "d"}
	second := api.Elem{Key: k, Made: 14, Val: "n"}
	x := tree.New()
	for i := range 9 {
		x, _ = grow.Insert(x, api.Elem{Key: api.Key{Obj: 1, Off: i}, Made: 1, Gone: 2})
	}
	x, _ = grow.Insert(x, first)
	x, _ = grow.Insert(x, second)
	name := "written at 4 and 14"
	found(t, name, x, k, 3, api.Elem{}, api.ErrNone)
	found(t, name, x, k, 4, first, api.OK)
	found(t, name, x, k, 13, first, api.OK)
	found(t, name, x, k, 14, second, api.OK)
	found(t, name, x, k, 99, second, api.OK)
	ranged(t, name, x, k, k, 3, nil, api.OK)
	ranged(t, name, x, k, k, 13, []api.Elem{first}, api.OK)
	ranged(t, name, x, k, k, 14, []api.Elem{second}, api.OK)
	ranged(t, name, x, k, api.Key{Off: 2}, 14, nil, api.OK)
}

// badKeys returns keys with one component out of range.
func badKeys() []api.Key {
	return []api.Key{
		{Pfs: -1}, {Pfs: 16}, {Pfs: math.MinInt}, {Pfs: math.MaxInt}, {Obj: -1}, {Obj: 1<<20 + 1}, {Obj: math.MaxInt},
		{Off: -1}, {Off: 1<<30 + 1}, {Off: math.MinInt}, {Off: math.MaxInt},
	}
}

// TestP31InvalidTreesFirst: the error of the tree, then that of its records, comes before that of a key.
func TestP31InvalidTreesFirst(t *testing.T) {
	for _, x := range slices.Concat(notTrees(), notRuns(t)) {
		for _, k := range append(badKeys(), api.Key{}, api.Key{Off: 1}, api.Key{Off: 8}) {
			for _, tid := range []int{math.MinInt, 0, 1, 5, math.MaxInt} {
				found(t, x.name, x.t, k, tid, api.Elem{}, x.want)
				ranged(t, x.name, x.t, k, api.Key{Pfs: 15}, tid, nil, x.want)
				ranged(t, x.name, x.t, api.Key{}, k, tid, nil, x.want)
			}
		}
	}
}

func TestP31InvalidKeys(t *testing.T) {
	for _, x := range runs(t) {
		for _, k := range badKeys() {
			for _, tid := range []int{math.MinInt, 0, 9, math.MaxInt} {
				found(t, x.name, x.t, k, tid, api.Elem{}, api.ErrArg)
				ranged(t, x.name, x.t, k, api.Key{Pfs: 15}, tid, nil, api.ErrArg)
				ranged(t, x.name, x.t, api.Key{}, k, tid, nil, api.ErrArg)
				ranged(t, x.name, x.t, k, k, tid, nil, api.ErrArg)
			}
		}
	}
}

// same compares trees field by field, with what lies in the spare capacity of their slices.
func same(x, y api.Tree) bool {
	return x.Root == y.Root && slices.EqualFunc(x.Nodes[:cap(x.Nodes)], y.Nodes[:cap(y.Nodes)], func(m, n api.Node) bool {
		return m.Kind == n.Kind &&
			slices.Equal(m.Elems[:cap(m.Elems)], n.Elems[:cap(n.Elems)]) &&
			slices.Equal(m.Kids[:cap(m.Kids)], n.Kids[:cap(n.Kids)]) &&
			slices.Equal(m.Seps[:cap(m.Seps)], n.Seps[:cap(n.Seps)]) &&
			slices.Equal(m.Tids[:cap(m.Tids)], n.Tids[:cap(n.Tids)])
	})
}

func TestP2TreesAreNotModifiedNorShared(t *testing.T) {
	mark := api.Elem{Made: -7}
	for _, x := range slices.Concat(runs(t), notRuns(t)) {
		for tid := range 30 {
			arg := cloned(x.t)
			past.Check(arg)
			past.At(arg, api.Key{Off: 5}, tid)
			for range 2 {
				l, _ := past.Range(arg, api.Key{}, api.Key{Pfs: 15}, tid)
				l = l[:cap(l)]
				if slices.Contains(l, mark) {
					t.Fatalf("%s: results of Range at %d share memory", x.name, tid)
				}
				for i := range l {
					l[i] = mark
				}
			}
			if !same(arg, cloned(x.t)) {
				t.Fatalf("%s: the tree was modified, or Range at %d shares memory with it", x.name, tid)
			}
		}
	}
}
