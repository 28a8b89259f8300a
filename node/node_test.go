package node_test

import (
	"math"
	"reflect"
	"slices"
	"strings"
	"testing"

	"annalist/api"
	"annalist/node"
)

var (
	badKey = api.Key{Pfs: 16}
	over   = strings.Repeat("v", 41)
)

// rec is a record that is valid if its numbers are.
func rec(off, made, gone int) api.Elem {
	return api.Elem{Key: api.Key{Off: off}, Made: made, Gone: gone, Val: "v"}
}

// recs returns n records in order, made at 1, 2 and so on.
func recs(n int) []api.Elem {
	var l []api.Elem
	for i := range n {
		l = append(l, rec(i, i+1, 0))
	}
	return l
}

// leaf is a leaf with these records.
func leaf(l ...api.Elem) api.Node {
	return api.Node{Kind: api.Leaf, Elems: l}
}

// sep is a separator.
func sep(off, made int) api.Spot {
	return api.Spot{Key: api.Key{Off: off}, Made: made}
}

// inner is an inner node with n children, numbered from 10, and separators at 10, 20 and so on.
func inner(n int) api.Node {
	x := api.Node{Kind: api.Inner}
	for i := range n {
		if i > 0 {
			x.Seps = append(x.Seps, sep(10*i, 1))
		}
		x.Kids = append(x.Kids, 10+i)
		x.Tids = append(x.Tids, 100+i)
	}
	return x
}

// changed is an inner node with n children after a change.
func changed(n int, change func(x *api.Node)) api.Node {
	x := inner(n)
	change(&x)
	return x
}

// checked is a node and what Check must say of it.
type checked struct {
	name string
	n    api.Node
	want api.Errno
}

// test tries Check on nodes. Tid and Kid must say the same of those that it rejects.
func test(t *testing.T, nodes []checked) {
	t.Helper()
	for _, x := range nodes {
		if got := node.Check(x.n); got != x.want {
			t.Errorf("%s: Check(%v) = %d, want %d", x.name, x.n, got, x.want)
		}
		if x.want == api.OK {
			continue
		}
		if got, err := node.Tid(x.n); got != 0 || err != x.want {
			t.Errorf("%s: Tid(%v) = %d, %d, want %d", x.name, x.n, got, err, x.want)
		}
		if got, err := node.Kid(x.n, sep(1000, 1)); got != 0 || err != x.want {
			t.Errorf("%s: Kid(%v) = %d, %d, want %d", x.name, x.n, got, err, x.want)
		}
	}
}

func TestP17CheckOfKindsAndFreeNodes(t *testing.T) {
	with := func(n api.Node, kind int) api.Node {
		n.Kind = kind
		return n
	}
	test(t, []checked{
		{"free", api.Node{}, api.OK},
		{"free with empty slices", api.Node{Elems: []api.Elem{}, Kids: []int{}, Seps: []api.Spot{}, Tids: []int{}}, api.OK},
		{"free with capacity", api.Node{Elems: recs(3)[:0], Kids: []int{1, 2}[:0]}, api.OK},
		{"free with records", api.Node{Elems: recs(1)}, api.ErrForm},
		{"free with a bad record", api.Node{Elems: []api.Elem{{Key: badKey}}}, api.ErrForm},
		{"free with children", api.Node{Kids: []int{1}}, api.ErrForm},
		{"free with separators", api.Node{Seps: []api.Spot{sep(1, 1)}}, api.ErrForm},
		{"free with times", api.Node{Tids: []int{0}}, api.ErrForm},
		{"free with the contents of an inner node", with(inner(2), api.Free), api.ErrForm},
		{"free with too much", api.Node{Elems: recs(9)}, api.ErrForm},
		{"empty of kind 3", api.Node{Kind: 3}, api.ErrForm},
		{"empty of kind -1", api.Node{Kind: -1}, api.ErrForm},
		{"empty of the least kind", api.Node{Kind: math.MinInt}, api.ErrForm},
		{"empty of the greatest kind", api.Node{Kind: math.MaxInt}, api.ErrForm},
		{"kind that wraps around to a leaf", api.Node{Kind: 257}, api.ErrForm},
		{"records of kind 3", with(leaf(recs(2)...), 3), api.ErrForm},
		{"too many records of kind 3", with(leaf(recs(9)...), 3), api.ErrForm},
		{"children of kind -1", with(inner(2), -1), api.ErrForm},
	})
}

func TestP17CheckOfLeaves(t *testing.T) {
	test(t, []checked{
		{"empty", leaf(), api.OK},
		{"empty slices", api.Node{Kind: api.Leaf, Elems: []api.Elem{}, Kids: []int{}, Seps: []api.Spot{}, Tids: []int{}}, api.OK},
		{"one record", leaf(recs(1)...), api.OK},
		{"eight records", leaf(recs(8)...), api.OK},
		{"versions of a key", leaf(rec(1, 1, 3), rec(1, 3, 0), rec(2, 1, 0)), api.OK},
		{"versions that overlap", leaf(rec(1, 1, 0), rec(1, 3, 0), rec(1, 4, 9), rec(1, 5, 6)), api.OK},
		{"later key made before", leaf(rec(1, 9, 0), rec(2, 1, 0)), api.OK},
		{"later realm", leaf(api.Elem{Key: api.Key{Obj: 9, Off: 9}, Made: 9}, api.Elem{Key: api.Key{Pfs: 1}, Made: 1}), api.OK},
		{"greatest numbers", leaf(api.Elem{Key: api.Key{Pfs: 15, Obj: 1 << 20, Off: 1 << 30}, Made: math.MaxInt32, Val: over[:40]}), api.OK},

		{"bad key", leaf(api.Elem{Key: badKey, Made: 1}), api.ErrArg},
		{"bad time", leaf(rec(1, 0, 0)), api.ErrTid},
		{"deleted when made", leaf(rec(1, 3, 3)), api.ErrTid},
		{"long value", leaf(api.Elem{Made: 1, Val: over}), api.ErrLarge},
		{"bad last record", leaf(append(recs(7), rec(9, 3, 2))...), api.ErrTid},
		{"equal spots", leaf(rec(1, 1, 0), rec(1, 1, 0)), api.ErrForm},
		{"equal spots, otherwise different", leaf(rec(1, 1, 2), api.Elem{Key: api.Key{Off: 1}, Made: 1}), api.ErrForm},
		{"versions in reverse", leaf(rec(1, 3, 0), rec(1, 1, 3)), api.ErrForm},
		{"keys in reverse", leaf(rec(2, 1, 0), rec(1, 2, 0)), api.ErrForm},
		{"last two in reverse", leaf(append(recs(7), rec(5, 1, 0))...), api.ErrForm},
		{"more than the one before the preceding", leaf(rec(1, 1, 0), rec(5, 1, 0), rec(3, 1, 0)), api.ErrForm},

		{"nine records", leaf(recs(9)...), api.ErrLarge},
		{"many records", leaf(recs(1000)...), api.ErrLarge},
		{"children", api.Node{Kind: api.Leaf, Elems: recs(2), Kids: []int{1}}, api.ErrForm},
		{"separators", api.Node{Kind: api.Leaf, Elems: recs(2), Seps: []api.Spot{sep(1, 1)}}, api.ErrForm},
		{"times", api.Node{Kind: api.Leaf, Elems: recs(2), Tids: []int{1}}, api.ErrForm},
		{"children but no records", api.Node{Kind: api.Leaf, Kids: []int{1, 2}, Seps: []api.Spot{sep(1, 1)}, Tids: []int{1, 1}}, api.ErrForm},
	})
}

func TestP17CheckOfLeavesReturnsTheFirstError(t *testing.T) {
	badRecord := api.Elem{Key: badKey}
	test(t, []checked{
		{"children before number", api.Node{Kind: api.Leaf, Elems: recs(9), Kids: []int{1}}, api.ErrForm},
		{"separators before number", api.Node{Kind: api.Leaf, Elems: recs(9), Seps: []api.Spot{{}}}, api.ErrForm},
		{"times before number", api.Node{Kind: api.Leaf, Elems: recs(9), Tids: []int{1}}, api.ErrForm},
		{"children before record", api.Node{Kind: api.Leaf, Elems: []api.Elem{badRecord}, Kids: []int{-1}}, api.ErrForm},
		{"number before record", leaf(append([]api.Elem{badRecord}, recs(8)...)...), api.ErrLarge},
		{"number before order", leaf(make([]api.Elem, 9)...), api.ErrLarge},
		{"key before time", leaf(badRecord), api.ErrArg},
		{"time before value", leaf(api.Elem{Val: over}), api.ErrTid},
		{"record before its order", leaf(rec(5, 1, 0), rec(1, 0, 0)), api.ErrTid},
		{"bad record with an equal spot", leaf(rec(5, 3, 0), rec(5, 3, 2)), api.ErrTid},
		{"order before the next record", leaf(rec(5, 1, 0), rec(1, 1, 0), badRecord), api.ErrForm},
		{"record before the order of the next", leaf(rec(5, 1, 0), rec(6, 1, 1), rec(1, 1, 0)), api.ErrTid},
		{"bad first of two bad records", leaf(rec(1, 0, 0), badRecord), api.ErrTid},
		{"bad record before a long value", leaf(badRecord, api.Elem{Made: 1, Val: over}), api.ErrArg},
	})
}

func TestP17CheckOfInnerNodes(t *testing.T) {
	nodes := []checked{
		{"equal children", changed(3, func(x *api.Node) { x.Kids = []int{7, 7, 7} }), api.OK},
		{"children in reverse", changed(3, func(x *api.Node) { x.Kids = []int{399, 7, 0} }), api.OK},
		{"child 0", changed(2, func(x *api.Node) { x.Kids[0] = 0 }), api.OK},
		{"child 399", changed(2, func(x *api.Node) { x.Kids[1] = 399 }), api.OK},
		{"times 0", changed(2, func(x *api.Node) { x.Tids = []int{0, 0} }), api.OK},
		{"last time", changed(2, func(x *api.Node) { x.Tids[1] = math.MaxInt32 }), api.OK},
		{"separators of a key", changed(3, func(x *api.Node) { x.Seps = []api.Spot{sep(1, 1), sep(1, 2)} }), api.OK},
		{"later key made before", changed(3, func(x *api.Node) { x.Seps = []api.Spot{sep(1, 9), sep(2, 1)} }), api.OK},
		{"separator made after all times", changed(2, func(x *api.Node) { x.Seps[0].Made = math.MaxInt32 }), api.OK},
		{"empty records", changed(2, func(x *api.Node) { x.Elems = []api.Elem{} }), api.OK},

		{"empty", api.Node{Kind: api.Inner}, api.ErrForm},
		{"one child", inner(1), api.ErrForm},
		{"one child and a separator", changed(1, func(x *api.Node) { x.Seps = []api.Spot{sep(1, 1)} }), api.ErrForm},
		{"records", changed(2, func(x *api.Node) { x.Elems = recs(1) }), api.ErrForm},
		{"only records", api.Node{Kind: api.Inner, Elems: recs(2)}, api.ErrForm},
		{"no separators", changed(2, func(x *api.Node) { x.Seps = nil }), api.ErrForm},
		{"a separator too few", changed(4, func(x *api.Node) { x.Seps = x.Seps[:2] }), api.ErrForm},
		{"a separator too many", changed(3, func(x *api.Node) { x.Seps = append(x.Seps, sep(30, 1)) }), api.ErrForm},
		{"no times", changed(2, func(x *api.Node) { x.Tids = nil }), api.ErrForm},
		{"a time too few", changed(3, func(x *api.Node) { x.Tids = x.Tids[:2] }), api.ErrForm},
		{"a time too many", changed(3, func(x *api.Node) { x.Tids = append(x.Tids, 1) }), api.ErrForm},
		{"a child too few", changed(3, func(x *api.Node) { x.Kids = x.Kids[:2] }), api.ErrForm},
		{"a child too many", changed(3, func(x *api.Node) { x.Kids = append(x.Kids, 1) }), api.ErrForm},
		{"nine children", inner(9), api.ErrLarge},
		{"many children", inner(1000), api.ErrLarge},

		{"equal separators", changed(3, func(x *api.Node) { x.Seps[1] = x.Seps[0] }), api.ErrForm},
		{"separators in reverse", changed(3, func(x *api.Node) { slices.Reverse(x.Seps) }), api.ErrForm},
		{"separators of a key in reverse", changed(3, func(x *api.Node) { x.Seps = []api.Spot{sep(1, 2), sep(1, 1)} }), api.ErrForm},
		{"last separators in reverse", changed(8, func(x *api.Node) { x.Seps[6] = sep(55, 1) }), api.ErrForm},
	}
	for n := 2; n <= 8; n++ {
		nodes = append(nodes, checked{"two to eight children", inner(n), api.OK})
	}
	test(t, nodes)
}

// TestP17CheckOfEveryChild makes one child, time or separator invalid, each in turn.
func TestP17CheckOfEveryChild(t *testing.T) {
	var nodes []checked
	for i := range 8 {
		for _, kid := range []int{-1, 400, math.MinInt, math.MaxInt} {
			nodes = append(nodes, checked{"bad child", changed(8, func(x *api.Node) { x.Kids[i] = kid }), api.ErrArg})
		}
		for _, tid := range []int{-1, math.MaxInt32 + 1, math.MinInt, math.MaxInt} {
			nodes = append(nodes, checked{"bad time", changed(8, func(x *api.Node) { x.Tids[i] = tid }), api.ErrTid})
		}
	}
	for i := range 7 {
		for _, k := range []api.Key{{Pfs: -1}, {Pfs: 16}, {Obj: -1}, {Obj: 1<<20 + 1}, {Off: -1}, {Off: 1<<30 + 1}} {
			nodes = append(nodes, checked{"bad key", changed(8, func(x *api.Node) { x.Seps[i].Key = k }), api.ErrArg})
		}
		for _, made := range []int{0, -1, math.MaxInt32 + 1, math.MinInt, math.MaxInt} {
			nodes = append(nodes, checked{"bad Made", changed(8, func(x *api.Node) { x.Seps[i].Made = made }), api.ErrTid})
		}
	}
	test(t, nodes)
}

func TestP17CheckOfInnerNodesReturnsTheFirstError(t *testing.T) {
	test(t, []checked{
		{"records before number", changed(9, func(x *api.Node) { x.Elems = recs(1) }), api.ErrForm},
		{"separators before number", changed(9, func(x *api.Node) { x.Seps = x.Seps[:7] }), api.ErrForm},
		{"times before number", changed(9, func(x *api.Node) { x.Tids = x.Tids[:8] }), api.ErrForm},
		{"records before child", changed(2, func(x *api.Node) { x.Elems, x.Kids[0] = recs(1), 400 }), api.ErrForm},
		{"number of separators before child", changed(2, func(x *api.Node) { x.Seps, x.Kids[0] = nil, 400 }), api.ErrForm},
		{"number of times before time", changed(2, func(x *api.Node) { x.Tids = []int{-1} }), api.ErrForm},
		{"number before child", changed(9, func(x *api.Node) { x.Kids[0] = 400 }), api.ErrLarge},
		{"number before time", changed(9, func(x *api.Node) { x.Tids[0] = -1 }), api.ErrLarge},
		{"number before separator", changed(9, func(x *api.Node) { x.Seps[0] = api.Spot{} }), api.ErrLarge},
		{"child before its time", changed(2, func(x *api.Node) { x.Kids[0], x.Tids[0] = 400, -1 }), api.ErrArg},
		{"time before the next child", changed(2, func(x *api.Node) { x.Kids[1], x.Tids[0] = 400, -1 }), api.ErrTid},
		{"child before the next time", changed(2, func(x *api.Node) { x.Kids[0], x.Tids[1] = 400, -1 }), api.ErrArg},
		{"last child before separator", changed(3, func(x *api.Node) { x.Kids[2], x.Seps[0].Made = 400, 0 }), api.ErrArg},
		{"last time before separator", changed(3, func(x *api.Node) { x.Tids[2], x.Seps[0].Key = -1, badKey }), api.ErrTid},
		{"last time before order", changed(3, func(x *api.Node) { x.Tids[2], x.Seps[0] = -1, sep(25, 1) }), api.ErrTid},
		{"key of a separator before its Made", changed(2, func(x *api.Node) { x.Seps[0] = api.Spot{Key: badKey} }), api.ErrArg},
		{"separator before its order", changed(3, func(x *api.Node) { x.Seps[1] = sep(1, 0) }), api.ErrTid},
		{"order before the next separator", changed(4, func(x *api.Node) { x.Seps = []api.Spot{sep(5, 1), sep(1, 1), {Key: badKey}} }), api.ErrForm},
		{"separator before the order of the next", changed(4, func(x *api.Node) { x.Seps = []api.Spot{sep(5, 1), sep(6, 0), sep(1, 1)} }), api.ErrTid},
	})
}

func TestP18Tid(t *testing.T) {
	for _, x := range []struct {
		name string
		n    api.Node
		want int
	}{
		{"free", api.Node{}, 0},
		{"empty leaf", leaf(), 0},
		{"made", leaf(rec(1, 5, 0)), 5},
		{"deleted", leaf(rec(1, 5, 7)), 7},
		{"last record made last", leaf(rec(1, 1, 7), rec(2, 9, 0)), 9},
		{"first record made last", leaf(rec(1, 9, 0), rec(2, 3, 0)), 9},
		{"first record deleted last", leaf(rec(1, 1, 12), rec(2, 9, 10), rec(3, 11, 0)), 12},
		{"record in between", leaf(rec(1, 1, 0), rec(2, 2, 30), rec(3, 4, 20)), 30},
		{"eight records", leaf(recs(8)...), 8},
		{"last time", leaf(rec(1, 1, math.MaxInt32)), math.MaxInt32},
		{"inner node", inner(2), 101},
		{"eight children", inner(8), 107},
		{"times in reverse", changed(3, func(x *api.Node) { x.Tids = []int{30, 20, 10} }), 30},
		{"time in between", changed(3, func(x *api.Node) { x.Tids = []int{1, math.MaxInt32, 2} }), math.MaxInt32},
		{"children without times", changed(3, func(x *api.Node) { x.Tids = []int{0, 0, 0} }), 0},
		{"one child with a time", changed(3, func(x *api.Node) { x.Tids = []int{0, 1, 0} }), 1},
		{"separators do not count", changed(2, func(x *api.Node) { x.Seps[0].Made = 5000 }), 101},
		{"children do not count", changed(2, func(x *api.Node) { x.Kids[0], x.Tids = 399, []int{1, 2} }), 2},
	} {
		if got, err := node.Tid(x.n); got != x.want || err != api.OK {
			t.Errorf("%s: Tid(%v) = %d, %d, want %d, OK", x.name, x.n, got, err, x.want)
		}
	}
}

func TestP19Kid(t *testing.T) {
	n := changed(6, func(x *api.Node) {
		x.Seps = []api.Spot{sep(10, 1), sep(20, 3), sep(20, 5), sep(21, 1), {Key: api.Key{Obj: 2}, Made: 7}}
	})
	for _, x := range []struct {
		s    api.Spot
		want int
	}{
		{sep(0, 1), 0},
		{sep(9, math.MaxInt32), 0},
		{sep(10, 1), 1},
		{sep(10, 2), 1},
		{sep(20, 2), 1},
		{sep(20, 3), 2},
		{sep(20, 4), 2},
		{sep(20, 5), 3},
		{sep(20, math.MaxInt32), 3},
		{sep(21, 1), 4},
		{sep(1<<30, 1), 4},
		{api.Spot{Key: api.Key{Obj: 1, Off: 5}, Made: 9}, 4},
		{api.Spot{Key: api.Key{Obj: 2}, Made: 6}, 4},
		{api.Spot{Key: api.Key{Obj: 2}, Made: 7}, 5},
		{api.Spot{Key: api.Key{Obj: 2}, Made: 8}, 5},
		{api.Spot{Key: api.Key{Pfs: 15, Obj: 1 << 20, Off: 1 << 30}, Made: math.MaxInt32}, 5},

		// A spot need not be one of a record.
		{api.Spot{}, 0},
		{sep(10, 0), 0},
		{sep(-1, 9), 0},
		{sep(21, math.MinInt), 3},
		{sep(20, math.MaxInt), 3},
		{sep(math.MaxInt, 1), 4},
		{api.Spot{Key: api.Key{Pfs: math.MinInt, Obj: math.MaxInt, Off: math.MaxInt}, Made: math.MaxInt}, 0},
		{api.Spot{Key: badKey, Made: math.MinInt}, 5},
		{api.Spot{Key: api.Key{Pfs: math.MaxInt}}, 5},
	} {
		if got, err := node.Kid(n, x.s); got != x.want || err != api.OK {
			t.Errorf("Kid(%v) = %d, %d, want %d, OK", x.s, got, err, x.want)
		}
	}
}

func TestP19KidOfNodesOfEverySize(t *testing.T) {
	for n := 2; n <= 8; n++ {
		for off := -5; off <= 10*n; off++ {
			want := min(max(off, 0)/10, n-1)
			if got, err := node.Kid(inner(n), sep(off, 1)); got != want || err != api.OK {
				t.Errorf("%d children, offset %d: Kid = %d, %d, want %d, OK", n, off, got, err, want)
			}
		}
	}
}

func TestP19KidRejectsNodesThatAreNotInner(t *testing.T) {
	for _, n := range []api.Node{{}, leaf(), leaf(recs(8)...)} {
		for _, s := range []api.Spot{{}, sep(3, 4), {Key: badKey, Made: -1}} {
			if got, err := node.Kid(n, s); got != 0 || err != api.ErrForm {
				t.Errorf("Kid(%v, %v) = %d, %d, want ErrForm", n, s, got, err)
			}
		}
	}
	// These nodes are invalid, and what is wrong in them comes first.
	for _, x := range []checked{
		{"leaf with nine records", leaf(recs(9)...), api.ErrLarge},
		{"leaf with a bad record", leaf(rec(1, 0, 0)), api.ErrTid},
		{"leaf with a bad key", leaf(api.Elem{Key: badKey, Made: 1}), api.ErrArg},
	} {
		if got, err := node.Kid(x.n, sep(1, 1)); got != 0 || err != x.want {
			t.Errorf("%s: Kid = %d, %d, want %d", x.name, got, err, x.want)
		}
	}
}

// spacious copies a node into slices with capacity to spare.
func spacious(n api.Node) api.Node {
	return api.Node{
		Kind:  n.Kind,
		Elems: append(make([]api.Elem, 0, 20), n.Elems...),
		Kids:  append(make([]int, 0, 20), n.Kids...),
		Seps:  append(make([]api.Spot, 0, 20), n.Seps...),
		Tids:  append(make([]int, 0, 20), n.Tids...),
	}
}

// whole is a node with what lies in the spare capacity of its slices.
func whole(n api.Node) api.Node {
	return api.Node{
		Kind:  n.Kind,
		Elems: n.Elems[:cap(n.Elems)],
		Kids:  n.Kids[:cap(n.Kids)],
		Seps:  n.Seps[:cap(n.Seps)],
		Tids:  n.Tids[:cap(n.Tids)],
	}
}

func TestP2NodesAreNotModified(t *testing.T) {
	for _, n := range []api.Node{
		{},
		leaf(recs(8)...),
		leaf(rec(2, 1, 0), rec(1, 1, 0)),
		inner(8),
		changed(3, func(x *api.Node) { slices.Reverse(x.Seps) }),
		changed(3, func(x *api.Node) { x.Elems = recs(2) }),
	} {
		got, want := spacious(n), spacious(n)
		node.Check(got)
		node.Tid(got)
		node.Kid(got, sep(15, 1))
		if !reflect.DeepEqual(whole(got), whole(want)) {
			t.Errorf("%v was modified: %v", whole(want), whole(got))
		}
	}
}
