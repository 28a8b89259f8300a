package store

import (
	"slices"
	"strconv"
	"strings"

	"annalist/api"
	"annalist/frame"
	"annalist/number"
	"annalist/page"
	"annalist/past"
	"annalist/undo"
)

// Which pages of a disk are for what. Each node of the tree has its place in the pages with data, so that a change of a
// few nodes changes only a few pages. There is a place for every node that a tree may have.
const (
	firstData = 1
	lastData  = firstData + api.MaxGroup - 1
	firstUndo = lastData + 1
	perPage   = api.MaxNodes / api.MaxGroup
)

// An undo record is a frame of this kind. Its body begins with the numbers of its group and of its page.
const (
	undoKind   = 9
	numberSize = 4
)

// headText returns what the head says of a tree: which node is the root.
func headText(t api.Tree) string {
	return strconv.Itoa(t.Root)
}

// data returns the contents of the pages with data for a valid tree.
func data(t api.Tree) []string {
	texts := make([]string, api.MaxGroup)
	for i, n := range t.Nodes {
		text, _ := page.Write(n)
		texts[i/perPage] += text
	}
	return texts
}

// layout returns the contents of all pages before those for undo records, after group seq has written a valid tree.
func layout(seq int, t api.Tree) []string {
	head, _ := undo.Head(seq, headText(t))
	return append([]string{head}, data(t)...)
}

// load returns the tree on a recovered disk, and whether a store can have this disk.
func load(d api.Disk) (api.Tree, bool) {
	seq, head, _ := undo.Seq(d)
	// Before the first group nothing can have been written.
	if seq == 0 && !slices.Equal(d.Pages, New().disk.Pages) {
		return api.Tree{}, false
	}
	t, found := decode(head, d.Pages[firstData:firstUndo])
	// What decode takes may still have its nodes in other places, or bytes that are not part of any of them.
	if !found || !slices.Equal(d.Pages[:firstUndo], layout(seq, t)) {
		return api.Tree{}, false
	}
	for _, text := range d.Pages[firstUndo:] {
		if text != "" && !isRecord(text) {
			return api.Tree{}, false
		}
	}
	return t, true
}

// decode returns the tree that the head and the pages with data seem to contain, and whether there may be one.
func decode(head string, texts []string) (api.Tree, bool) {
	l, found := nodes(strings.Join(texts, ""))
	root, err := strconv.Atoi(head)
	t := api.Tree{Root: root, Nodes: l}
	if !found || err != nil || past.Check(t) != api.OK {
		return api.Tree{}, false
	}
	return t, true
}

// nodes returns the nodes whose encodings follow one another in a text, and whether there is nothing else in it.
func nodes(text string) ([]api.Node, bool) {
	var l []api.Node
	for text != "" {
		_, size, err := frame.Get(text)
		if err != api.OK {
			return nil, false
		}
		n, err := page.Read(text[:size])
		if err != api.OK {
			return nil, false
		}
		l = append(l, n)
		text = text[size:]
	}
	return l, true
}

// isRecord reports whether a text is an undo record that a group may have left. Recovery leaves none of later groups.
func isRecord(text string) bool {
	f, size, err := frame.Get(text)
	if err != api.OK || size != len(text) || f.Kind != undoKind || len(f.Body) < 2*numberSize {
		return false
	}
	group, where := number.Of(f.Body[:numberSize]), number.Of(f.Body[numberSize:2*numberSize])
	old, found := nodes(f.Body[2*numberSize:])
	return group > 0 && where >= firstData && where <= lastData && found && len(old) <= perPage
}
