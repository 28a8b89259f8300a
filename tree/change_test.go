package tree_test

import (
	"slices"
	"testing"

	"annalist/api"
	"annalist/key"
	"annalist/node"
)

// reference says what Check must return, in the words of the chapter, condition by condition.
func reference(t api.Tree) api.Errno {
	if len(t.Nodes) > 400 {
		return api.ErrLarge
	}
	for _, n := range t.Nodes {
		if err := node.Check(n); err != api.OK {
			return err
		}
	}
	for _, c := range conditions() {
		if !c.holds(t) {
			return api.ErrForm
		}
	}
	return api.OK
}

// condition is one of those under which valid nodes are a tree. Each of them may rely on those before it.
type condition struct {
	name  string
	holds func(api.Tree) bool
}

func conditions() []condition {
	return []condition{
		{"nodes exist", nodesExist},
		{"one parent", oneParent},
		{"all reachable", allReachable},
		{"enough in nodes", enoughInNodes},
		{"leaves on one level", leavesOnOneLevel},
		{"spots between separators", spotsBetweenSeparators},
		{"greatest times", greatestTimes},
	}
}

func exists(t api.Tree, i int) bool {
	return i >= 0 && i < len(t.Nodes) && t.Nodes[i].Kind != api.Free
}

func nodesExist(t api.Tree) bool {
	for _, n := range t.Nodes {
		for _, kid := range n.Kids {
			if !exists(t, kid) {
				return false
			}
		}
	}
	return exists(t, t.Root)
}

func oneParent(t api.Tree) bool {
	for i := range t.Nodes {
		parents := 0
		for _, n := range t.Nodes {
			if slices.Contains(n.Kids, i) {
				parents++
			}
		}
		if exists(t, i) && i != t.Root && parents != 1 {
			return false
		}
	}
	return true
}

func allReachable(t api.Tree) bool {
	reached := map[int]bool{t.Root: true}
	for range t.Nodes {
		for i, n := range t.Nodes {
			for _, kid := range n.Kids {
				if reached[i] {
					reached[kid] = true
				}
			}
		}
	}
	for i := range t.Nodes {
		if exists(t, i) && !reached[i] {
			return false
		}
	}
	return true
}

func enoughInNodes(t api.Tree) bool {
	for i, n := range t.Nodes {
		if i != t.Root && (n.Kind == api.Leaf && len(n.Elems) < 4 || n.Kind == api.Inner && len(n.Kids) < 4) {
			return false
		}
	}
	return true
}

// leavesOnOneLevel also finds ways without an end.
func leavesOnOneLevel(t api.Tree) bool {
	levels := map[int]bool{}
	var descend func(i, level int)
	descend = func(i, level int) {
		if t.Nodes[i].Kind == api.Leaf || level > len(t.Nodes) {
			levels[level] = true
			return
		}
		for _, kid := range t.Nodes[i].Kids {
			descend(kid, level+1)
		}
	}
	descend(t.Root, 1)
	return len(levels) == 1 && !levels[len(t.Nodes)+1]
}

// spotsBelow returns the spots in the subtree of node i, in no order.
func spotsBelow(t api.Tree, i int) []api.Spot {
	l := slices.Clone(t.Nodes[i].Seps)
	for _, e := range t.Nodes[i].Elems {
		l = append(l, spot(e))
	}
	for _, kid := range t.Nodes[i].Kids {
		l = append(l, spotsBelow(t, kid)...)
	}
	return l
}

func spotsBetweenSeparators(t api.Tree) bool {
	for _, n := range t.Nodes {
		for i, kid := range n.Kids {
			for _, s := range spotsBelow(t, kid) {
				if i > 0 && key.CmpSpot(s, n.Seps[i-1]) < 0 || i < len(n.Seps) && key.CmpSpot(s, n.Seps[i]) >= 0 {
					return false
				}
			}
		}
	}
	return true
}

func greatestTimes(t api.Tree) bool {
	for _, n := range t.Nodes {
		for i, kid := range n.Kids {
			if n.Tids[i] != greatest(below(t, kid)) {
				return false
			}
		}
	}
	return true
}

// changes calls try with every tree that differs from x by one small change.
func changes(x api.Tree, try func(name string, y api.Tree)) {
	change := func(name string, f func(y *api.Tree)) {
		y := cloned(x)
		f(&y)
		try(name, y)
	}
	spots := neighbours(spotsBelow(x, x.Root))
	for i := -1; i <= len(x.Nodes); i++ {
		change("another root", func(y *api.Tree) { y.Root = i })
	}
	for i, n := range x.Nodes {
		change("a node is free", func(y *api.Tree) { y.Nodes[i] = api.Node{} })
		change("a node is empty", func(y *api.Tree) { y.Nodes[i] = api.Node{Kind: api.Leaf} })
		for j, m := range x.Nodes {
			change("a node is like another one", func(y *api.Tree) { y.Nodes[i] = cloned(api.Tree{Nodes: []api.Node{m}}).Nodes[0] })
			change("two nodes are exchanged", func(y *api.Tree) { y.Nodes[i], y.Nodes[j] = y.Nodes[j], y.Nodes[i] })
		}
		for j, e := range n.Elems {
			changeElem(e, spots, func(name string, e api.Elem) {
				change(name, func(y *api.Tree) { y.Nodes[i].Elems[j] = e })
			})
			change("a record is missing", func(y *api.Tree) { y.Nodes[i].Elems = slices.Delete(y.Nodes[i].Elems, j, j+1) })
		}
		for j := range n.Kids {
			for kid := range len(x.Nodes) + 1 {
				change("another child", func(y *api.Tree) { y.Nodes[i].Kids[j] = kid })
			}
			for _, tid := range []int{0, 1, n.Tids[j] - 1, n.Tids[j] + 1, n.Tids[0], api.MaxTid} {
				change("another time", func(y *api.Tree) { y.Nodes[i].Tids[j] = tid })
			}
		}
		for j := range n.Seps {
			for _, s := range spots {
				change("another separator", func(y *api.Tree) { y.Nodes[i].Seps[j] = s })
			}
		}
	}
}

// changeElem calls try with records that differ from e by one field, or by the spot.
func changeElem(e api.Elem, spots []api.Spot, try func(name string, e api.Elem)) {
	for _, gone := range []int{0, e.Made + 1, e.Gone - 1, e.Gone + 1, 500} {
		f := e
		f.Gone = gone
		try("another end", f)
	}
	f := e
	f.Val = "another one"
	try("another value", f)
	for _, s := range spots {
		f.Key, f.Made = s.Key, s.Made
		f.Gone = 0
		try("another spot", f)
	}
}

// neighbours returns spots and those directly beside them.
func neighbours(spots []api.Spot) []api.Spot {
	l := []api.Spot{{Made: 1}, {Key: api.Key{Pfs: 15, Obj: 1 << 20, Off: 1 << 30}, Made: api.MaxTid}}
	for _, s := range spots {
		for made := s.Made - 1; made <= s.Made+1; made++ {
			l = append(l, api.Spot{Key: s.Key, Made: made})
		}
	}
	slices.SortFunc(l, key.CmpSpot)
	return slices.Compact(l)
}

// TestP22EveryChangeOfATree compares Check of all trees that differ from a valid one by a small change with reference.
func TestP22EveryChangeOfATree(t *testing.T) {
	for _, x := range []api.Tree{
		built([]int{0}),
		built([]int{2}),
		built([]int{8}),
		built([]int{4, 4}, []int{2}),
		built([]int{5, 4, 6}, []int{3}),
		renumbered(built([]int{4, 5}, []int{2}), 7, func(i int) int { return 5 - 2*i }),
		built([]int{4, 5, 4, 4, 4, 4, 5, 4}, []int{4, 4}, []int{2}),
		renumbered(built(times(9, 4), []int{4, 5}, []int{2}), 14, func(i int) int { return i * 5 % 13 }),
	} {
		if got := reference(x); got != api.OK {
			t.Fatalf("the reference rejects %v: %d", x, got)
		}
		changes(x, func(name string, y api.Tree) {
			t.Helper()
			checked(t, name, y, reference(y))
		})
	}
}
