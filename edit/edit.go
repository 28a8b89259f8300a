// Package edit: trees that are changed at one spot. What insertion and removal share is in it.
package edit

import (
	"slices"

	"annalist/api"
	"annalist/elem"
	"annalist/key"
	"annalist/node"
)

// Insertion is a copy of a tree into which a record may be put, with the way to the leaf where it belongs.
type Insertion struct {
	Tree api.Tree
	Way  []int // the numbers of the nodes from the root to this leaf
}

// To begins a change of a valid tree at s.
func To(t api.Tree, s api.Spot) Insertion {
	x := Insertion{Tree: copied(t), Way: []int{t.Root}}
	n := t.Nodes[t.Root]
	for n.Kind == api.Inner {
		i, _ := node.Kid(n, s)
		x.Way = append(x.Way, n.Kids[i])
		n = t.Nodes[n.Kids[i]]
	}
	return x
}

// copied returns a tree in new memory.
func copied(t api.Tree) api.Tree {
	c := api.Tree{Root: t.Root}
	for _, n := range t.Nodes {
		n.Elems = slices.Clone(n.Elems)
		n.Kids = slices.Clone(n.Kids)
		n.Seps = slices.Clone(n.Seps)
		n.Tids = slices.Clone(n.Tids)
		c.Nodes = append(c.Nodes, n)
	}
	return c
}

// At returns the node on a level of the way; the root is on level 0.
// It is valid until the tree has more nodes.
func (x *Insertion) At(level int) *api.Node {
	return &x.Tree.Nodes[x.Way[level]]
}

// Leaf returns the leaf at the end of the way.
func (x *Insertion) Leaf() *api.Node {
	return x.At(len(x.Way) - 1)
}

// Position returns the index in the leaf of the first record whose spot is not less than s.
func (x *Insertion) Position(s api.Spot) int {
	i, _ := slices.BinarySearchFunc(x.Leaf().Elems, s, func(e api.Elem, s api.Spot) int {
		return key.CmpSpot(elem.Spot(e), s)
	})
	return i
}

// Insert puts a new record into the leaf.
func (x *Insertion) Insert(e api.Elem) {
	leaf := x.Leaf()
	leaf.Elems = slices.Insert(leaf.Elems, x.Position(elem.Spot(e)), e)
	x.Settle()
}

// Replace puts a record into the leaf in place of the one with its spot.
func (x *Insertion) Replace(e api.Elem) {
	x.Leaf().Elems[x.Position(elem.Spot(e))] = e
	x.Settle()
}

// Settle makes the tree valid after a change of the leaf, provided that no node has become too small.
func (x *Insertion) Settle() {
	for level := len(x.Way) - 1; level > 0; level-- {
		x.Fit(level)
	}
	if Size(*x.At(0)) > api.MaxFill {
		x.raise()
		x.Fit(1)
	}
}

// Size returns the number of records or children.
func Size(n api.Node) int {
	return len(n.Elems) + len(n.Kids)
}

// raise puts a new root above the root.
func (x *Insertion) raise() {
	top := api.Node{Kind: api.Inner, Kids: []int{x.Tree.Root}, Tids: []int{0}}
	x.Tree.Root = x.add(top)
	x.Way = slices.Insert(x.Way, 0, x.Tree.Root)
}

// add gives a node a number: that of a free node, if there is one.
// A tree of at most MaxRun records never needs more than MaxNodes nodes, and a removal frees one before it adds one.
func (x *Insertion) add(n api.Node) int {
	for i, old := range x.Tree.Nodes {
		if old.Kind == api.Free {
			x.Tree.Nodes[i] = n
			return i
		}
	}
	x.Tree.Nodes = append(x.Tree.Nodes, n)
	return len(x.Tree.Nodes) - 1
}

// Fit splits the node on a level below the root if it is too large, and gives its parent the greatest time in it.
func (x *Insertion) Fit(level int) {
	if Size(*x.At(level)) > api.MaxFill {
		x.split(level)
	}
	x.At(level - 1).Tids[x.Place(level)] = greatest(*x.At(level))
}

// Place returns the index among the children of its parent of the node on a level below the root.
func (x *Insertion) Place(level int) int {
	return slices.Index(x.At(level-1).Kids, x.Way[level])
}

// greatest returns the greatest time in a node, which has a valid size.
func greatest(n api.Node) int {
	tid, _ := node.Tid(n)
	return tid
}

// split moves the right half of the node on a level into a new node beside it.
func (x *Insertion) split(level int) {
	left, right, sep := halves(*x.At(level))
	*x.At(level) = left
	kid := x.add(right)
	parent, i := x.At(level-1), x.Place(level)
	parent.Kids = slices.Insert(parent.Kids, i+1, kid)
	parent.Tids = slices.Insert(parent.Tids, i+1, greatest(right))
	parent.Seps = slices.Insert(parent.Seps, i, sep)
}

// halves returns the halves of a node, and what separates them.
func halves(n api.Node) (left, right api.Node, sep api.Spot) {
	half := (Size(n) + 1) / 2
	left.Kind, right.Kind = n.Kind, n.Kind
	if n.Kind == api.Leaf {
		left.Elems, right.Elems = cut(n.Elems, half)
		return left, right, elem.Spot(right.Elems[0])
	}
	left.Kids, right.Kids = cut(n.Kids, half)
	left.Tids, right.Tids = cut(n.Tids, half)
	// The separator between the halves goes up: it belongs to neither.
	left.Seps, right.Seps = slices.Clone(n.Seps[:half-1]), slices.Clone(n.Seps[half:])
	return left, right, n.Seps[half-1]
}

// cut returns copies of the first n elements of a slice, and of the others.
func cut[E any](l []E, n int) ([]E, []E) {
	return slices.Clone(l[:n]), slices.Clone(l[n:])
}
