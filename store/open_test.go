package store_test

import (
	"fmt"
	"math"
	"math/rand/v2"
	"slices"
	"strings"
	"testing"

	"annalist/api"
	"annalist/build"
	"annalist/frame"
	"annalist/page"
	"annalist/store"
	"annalist/undo"
)

func TestP47Open(t *testing.T) {
	for _, n := range []int{0, 1, 8, 9, 33, 34, 100, 200, 400} {
		for name, order := range orders(n) {
			name = fmt.Sprint(n, " records, ", name)
			b := filled(t, order, "v")
			b.flush(t)
			o := reopened(t, name, b.s.Disk(), b.l)
			for _, x := range []*both{b, o} {
				x.change(t, rand.New(rand.NewPCG(47, uint64(n))), 50)
				x.flush(t)
			}
			if !same(b.s.Disk(), o.s.Disk()) {
				t.Fatalf("%s: after the same changes the disks of the store and of the reopened one differ", name)
			}
			reopened(t, name+", changed", o.s.Disk(), o.l)
		}
	}
}

// history is a disk after several groups of different sizes, of which there are undo records, and its records.
func history(t *testing.T) (api.Disk, []api.Elem) {
	t.Helper()
	b := filled(t, orders(60)["mixed"], "first")
	b.flush(t)
	for _, n := range []int{60, 30, 5, 1} {
		for i := range n {
			b.put(t, key(i), fmt.Sprint(n, " keys are changed"), 1)
		}
		b.flush(t)
	}
	return b.s.Disk(), b.l
}

// set is a disk with other contents of a page.
func set(d api.Disk, page int, text string) api.Disk {
	d = api.Disk{Pages: slices.Clone(d.Pages), Writes: slices.Clone(d.Writes)}
	d.Pages[page] = text
	return d
}

// refused fails the test unless Open returns only this error.
func refused(t *testing.T, name string, d api.Disk, want api.Errno) {
	t.Helper()
	if s, err := store.Open(d); s != nil || err != want {
		t.Errorf("%s: Open: %d, want %d", name, err, want)
	}
}

func TestP47OpenReturnsTheErrorOfRecover(t *testing.T) {
	d, _ := history(t)
	tooLong := strings.Repeat("p", 3501)
	pending := func(l ...api.Write) api.Disk { return api.Disk{Pages: d.Pages, Writes: l} }
	refused(t, "202 pages", api.Disk{Pages: append(slices.Clone(d.Pages), "")}, api.ErrLarge)
	refused(t, "401 writes", pending(make([]api.Write, 401)...), api.ErrLarge)
	refused(t, "page too long", set(set(d, 0, ""), 7, tooLong), api.ErrLarge)
	refused(t, "write too long", pending(api.Write{Page: 7, Text: tooLong}), api.ErrLarge)
	refused(t, "write to no page", pending(api.Write{Page: 201}), api.ErrArg)
	refused(t, "no pages", api.Disk{}, api.ErrForm)
	refused(t, "200 pages", api.Disk{Pages: d.Pages[:200]}, api.ErrForm)
	refused(t, "200 pages, no head", api.Disk{Pages: set(d, 0, "?").Pages[:200]}, api.ErrForm)
	refused(t, "empty pages", api.Disk{Pages: make([]string, 201)}, api.ErrCorrupt)
	for name, head := range map[string]string{
		"nothing":        "",
		"no frame":       "?" + d.Pages[0],
		"half a frame":   d.Pages[0][:len(d.Pages[0])-1],
		"another kind":   framed(t, 7, "\x00\x00\x00\x050"),
		"a number alone": framed(t, 8, "\x00\x00\x05"),
		"a great number": framed(t, 8, "\x80\x00\x00\x000"),
	} {
		refused(t, "head: "+name, set(d, 0, head), api.ErrCorrupt)
		refused(t, "pending head: "+name, pending(api.Write{Text: head}), api.ErrCorrupt)
	}
}

// framed is a frame of a kind.
func framed(t *testing.T, kind int, body string) string {
	t.Helper()
	s, err := frame.Put(api.Frame{Kind: kind, Body: body})
	if err != api.OK {
		t.Fatalf("no frame of the sample: %d", err)
	}
	return s
}

// TestP47ChangedPages changes each page in several ways. Only an undo record may be missing.
func TestP47ChangedPages(t *testing.T) {
	d, l := history(t)
	for i, text := range d.Pages {
		for _, other := range []string{
			"", "?", text + "?", text + "\x00", "\x00" + text, text + text, "x", strings.Repeat("\x00", 3500), strings.Repeat("\xff", 3500),
			text[:len(text)/2], text[len(text)/2:], d.Pages[0], d.Pages[1], d.Pages[2], d.Pages[101], d.Pages[102], framed(t, 1, ""), framed(t, 2, ""), framed(t, 9, ""),
		} {
			x := set(d, i, other)
			switch {
			case other == text:
			case i > 100 && (other == "" || other == d.Pages[101] || other == d.Pages[102]):
				reopened(t, fmt.Sprintf("page %d is %.60q", i, other), x, l)
			default:
				refused(t, fmt.Sprintf("page %d is %.60q", i, other), x, api.ErrCorrupt)
			}
		}
	}
}

// TestP47ChangedBytes changes single bytes of all pages.
func TestP47ChangedBytes(t *testing.T) {
	d, _ := history(t)
	for i, text := range d.Pages {
		for j := 0; j < len(text); j += 1 + j/40 {
			for _, bit := range []byte{1, 128} {
				b := []byte(text)
				b[j] ^= bit
				refused(t, fmt.Sprintf("byte %d of page %d", j, i), set(d, i, string(b)), api.ErrCorrupt)
			}
		}
	}
}

// TestP47Swapped exchanges pages. The order of undo records is not looked at.
func TestP47Swapped(t *testing.T) {
	d, l := history(t)
	for i, x := range d.Pages {
		for j, y := range d.Pages[:i] {
			swapped := set(set(d, i, y), j, x)
			switch {
			case x == y:
			case j > 100:
				reopened(t, fmt.Sprint("undo records ", i, " and ", j), swapped, l)
			default:
				refused(t, fmt.Sprint("pages ", i, " and ", j), swapped, api.ErrCorrupt)
			}
		}
	}
}

// written is a disk with a head and with data in its pages from 1 on.
func written(t *testing.T, seq int, text string, data ...string) api.Disk {
	t.Helper()
	head, err := undo.Head(seq, text)
	if err != api.OK {
		t.Fatalf("no head of the sample: %d", err)
	}
	return api.Disk{Pages: append(append([]string{head}, data...), make([]string, 200-len(data))...)}
}

// encoded are the encodings of the nodes of a tree.
func encoded(t *testing.T, x api.Tree) []string {
	t.Helper()
	var l []string
	for _, n := range x.Nodes {
		s, err := page.Write(n)
		if err != api.OK {
			t.Fatalf("no node of the sample: %d", err)
		}
		l = append(l, s)
	}
	return l
}

// grouped joins texts by n.
func grouped(texts []string, n int) []string {
	var l []string
	for x := range slices.Chunk(texts, n) {
		l = append(l, strings.Join(x, ""))
	}
	return l
}

// sample is a tree of 73 records in 13 nodes, the last of which is the root.
func sample(t *testing.T) api.Tree {
	t.Helper()
	x, err := build.Of(filled(t, orders(73)["up"], "v").l)
	if err != api.OK || len(x.Nodes) != 13 || x.Root != 12 {
		t.Fatalf("the sample has %d nodes, root %d, %d", len(x.Nodes), x.Root, err)
	}
	return x
}

// TestP47Layout: four nodes are on a page, and the head says which one is the root, in decimal.
func TestP47Layout(t *testing.T) {
	x := sample(t)
	texts := encoded(t, x)
	l := filled(t, orders(73)["up"], "v").l
	for _, seq := range []int{1, 2, 1 << 24, math.MaxInt32 - 1, math.MaxInt32} {
		reopened(t, "layout", written(t, seq, "12", grouped(texts, 4)...), l)
	}
	refused(t, "records before the first group", written(t, 0, "12", grouped(texts, 4)...), api.ErrCorrupt)
	for _, root := range []string{"", "0", "1", "11", "13", "-1", "+12", "012", "12 ", " 12", "1_2", "0xc", "12.0", "x", "12\x00", "99999999999999999999", "-99999999999999999999", strings.Repeat("0", 2898) + "12"} {
		refused(t, "root "+root, written(t, 3, root, grouped(texts, 4)...), api.ErrCorrupt)
	}
	for _, n := range []int{1, 2, 3, 5, 8, 13} {
		refused(t, fmt.Sprint(n, " nodes on a page"), written(t, 3, "12", grouped(texts, n)...), api.ErrCorrupt)
	}
	whole := strings.Join(texts, "")
	refused(t, "a node on two pages", written(t, 3, "12", whole[:1000], whole[1000:]), api.ErrCorrupt)
	refused(t, "nothing on a page between", written(t, 3, "12", slices.Insert(grouped(texts, 4), 1, "")...), api.ErrCorrupt)
	refused(t, "a node is missing", written(t, 3, "12", grouped(texts[1:], 4)...), api.ErrCorrupt)
	refused(t, "the last node is missing", written(t, 3, "12", grouped(texts[:12], 4)...), api.ErrCorrupt)
	refused(t, "no nodes", written(t, 3, "0"), api.ErrCorrupt)
	refused(t, "no nodes before the first group", written(t, 0, "0"), api.ErrCorrupt)
	head := written(t, 3, "12", grouped(texts, 4)...)
	refused(t, "bytes after the head", set(head, 0, head.Pages[0]+"\x00"), api.ErrCorrupt)
}

// TestP47FreeNodes: nodes may be free, and as many as there is room for.
func TestP47FreeNodes(t *testing.T) {
	x := sample(t)
	l := filled(t, orders(73)["up"], "v").l
	for _, n := range []int{14, 16, 17, 399, 400} {
		x.Nodes = append(x.Nodes, make([]api.Node, n-len(x.Nodes))...)
		b := reopened(t, fmt.Sprint(n, " nodes"), written(t, 3, "12", grouped(encoded(t, x), 4)...), l)
		b.change(t, rand.New(rand.NewPCG(7, uint64(n))), 200)
		b.flush(t)
		reopened(t, fmt.Sprint(n, " nodes, changed"), b.s.Disk(), b.l)
	}
	x.Nodes = append(x.Nodes, make([]api.Node, 4)...)
	refused(t, "404 nodes", written(t, 3, "12", grouped(encoded(t, x), 5)...), api.ErrCorrupt)
	refused(t, "many nodes", written(t, 3, "12", slices.Repeat([]string{strings.Repeat(framed(t, 1, ""), 580)}, 100)...), api.ErrCorrupt)
}

// TestP47NoTrees: the nodes are no tree, or the records of the tree no run.
func TestP47NoTrees(t *testing.T) {
	leaf := func(l ...api.Elem) api.Node { return api.Node{Kind: api.Leaf, Elems: l} }
	e := func(off, made, gone int) api.Elem {
		return api.Elem{Key: api.Key{Off: off}, Made: made, Gone: gone}
	}
	two := func(left, right api.Node, tid int) api.Tree {
		root := api.Node{Kind: api.Inner, Kids: []int{0, 1}, Tids: []int{4, tid}, Seps: []api.Spot{{Key: api.Key{Off: 5}, Made: 5}}}
		return api.Tree{Root: 2, Nodes: []api.Node{left, right, root}}
	}
	left := leaf(e(1, 1, 0), e(2, 2, 0), e(3, 3, 0), e(4, 4, 0))
	right := leaf(e(5, 5, 0), e(6, 6, 0), e(7, 7, 0), e(8, 8, 0))
	open := func(x api.Tree) (*store.Store, api.Errno) {
		return store.Open(written(t, 3, fmt.Sprint(x.Root), grouped(encoded(t, x), 4)...))
	}
	for name, x := range map[string]api.Tree{"a leaf": {Nodes: []api.Node{left}}, "a tree": two(left, right, 8)} {
		if s, err := open(x); err != api.OK || s == nil {
			t.Errorf("%s: Open: %d", name, err)
		}
	}
	for name, x := range map[string]api.Tree{
		"a leaf is small":         two(left, leaf(e(5, 5, 0), e(6, 6, 0), e(7, 8, 0)), 8),
		"a wrong time":            two(left, right, 9),
		"no order":                two(right, left, 4),
		"no child":                {Root: 0, Nodes: []api.Node{two(left, right, 8).Nodes[2]}},
		"another root":            {Root: 0, Nodes: two(left, right, 8).Nodes},
		"a free root":             {Root: 0, Nodes: []api.Node{{}}},
		"versions that overlap":   {Nodes: []api.Node{leaf(e(1, 1, 0), e(1, 2, 0))}},
		"versions that overlap 2": {Nodes: []api.Node{leaf(e(1, 1, 3), e(1, 2, 0))}},
	} {
		if s, err := open(x); s != nil || err != api.ErrCorrupt {
			t.Errorf("%s: Open: %d, want ErrCorrupt", name, err)
		}
	}
}

// number is n in four bytes.
func number(n int) string {
	return string([]byte{byte(n >> 24), byte(n >> 16), byte(n >> 8), byte(n)})
}

// TestP47UndoRecords: besides undo records as groups leave them there may be nothing on their pages.
func TestP47UndoRecords(t *testing.T) {
	x := sample(t)
	texts := grouped(encoded(t, x), 4)
	d := written(t, 6, "12", texts...)
	l := filled(t, orders(73)["up"], "v").l
	record := func(seq, page int, old string) string { return framed(t, 9, number(seq)+number(page)+old) }
	for i := 101; i <= 200; i += 9 {
		for _, old := range append([]string{"", framed(t, 1, ""), strings.Repeat(framed(t, 1, ""), 4)}, texts...) {
			for _, seq := range []int{1, 2, 6} {
				reopened(t, "a record of the first page", set(d, i, record(seq, 1, old)), l)
				reopened(t, "a record of a page between", set(d, i, record(seq, i/2, old)), l)
				reopened(t, "a record of the last page", set(d, i, record(seq, 100, old)), l)
			}
		}
		good := record(5, 9, texts[0])
		for name, text := range map[string]string{
			"bytes":               "?",
			"a frame of kind 8":   framed(t, 8, number(5)+number(9)),
			"a frame of kind 10":  framed(t, 10, number(5)+number(9)),
			"no number":           framed(t, 9, ""),
			"one number":          framed(t, 9, number(5)),
			"seven bytes":         framed(t, 9, number(5)+"\x00\x00\x00"),
			"half a record":       good[:len(good)-1],
			"bytes after it":      good + "\x00",
			"wrong sum":           good[:len(good)-1] + "?",
			"group 0":             record(0, 9, texts[0]),
			"page 0":              record(5, 0, texts[0]),
			"page 101":            record(5, 101, texts[0]),
			"page 265":            record(5, 265, texts[0]),
			"greatest page":       record(5, 1<<32-1, texts[0]),
			"old bytes":           record(5, 9, "old"),
			"bytes after nodes":   record(5, 9, texts[0]+"\x00"),
			"half a node":         record(5, 9, texts[0][:200]),
			"five nodes":          record(5, 9, strings.Repeat(framed(t, 1, ""), 5)),
			"an invalid node":     record(5, 9, framed(t, 3, "")),
			"a node of kind four": record(5, 9, framed(t, 4, "")),
		} {
			refused(t, name, set(d, i, text), api.ErrCorrupt)
		}
	}
	reopenedAs := func(name string, x, want api.Disk) {
		t.Helper()
		if s, err := store.Open(x); err != api.OK || !same(s.Disk(), want) || !slices.Equal(s.Run(), l) {
			t.Errorf("%s: Open: %d", name, err)
		}
	}
	reopenedAs("a record of the next group", set(set(d, 2, "?"), 101, record(7, 2, texts[1])), d)
	reopenedAs("a record of a later group", set(d, 150, record(8, 2, "?")), d)
	reopenedAs("pending writes", api.Disk{Pages: set(set(d, 0, "?"), 101, "?").Pages, Writes: []api.Write{{Text: d.Pages[0]}, {Page: 101}}}, d)
	refused(t, "the next group spoils a page", set(d, 101, record(7, 2, "?")), api.ErrCorrupt)
	refused(t, "the next group writes a page", set(d, 101, record(7, 2, texts[0])), api.ErrCorrupt)
	first := store.New().Disk()
	refused(t, "a record before the first group", set(first, 101, record(0, 1, "")), api.ErrCorrupt)
	refused(t, "bytes before the first group", set(first, 200, "?"), api.ErrCorrupt)
}

// TestP1P47Mixtures opens disks of pages of several disks, and with bytes at random: whatever Open takes for a disk of a
// store is one.
func TestP1P47Mixtures(t *testing.T) {
	d, _ := history(t)
	r := rand.New(rand.NewPCG(47, 1))
	pool := slices.Clone(d.Pages)
	b := filled(t, orders(40)["down"], "w")
	for _, x := range b.flush(t) {
		pool = append(pool, x.Pages[:110]...)
	}
	opened := 0
	for range 3000 {
		x := api.Disk{Pages: slices.Clone(d.Pages)}
		for range 1 + r.IntN(3) {
			text := pool[r.IntN(len(pool))]
			if r.IntN(3) == 0 {
				raw := make([]byte, r.IntN(60))
				for i := range raw {
					raw[i] = byte(r.IntN(256) >> r.IntN(8))
				}
				text = string(raw)
			}
			if i := r.IntN(201); r.IntN(2) == 0 {
				x.Pages[i] = text
			} else {
				x.Writes = append(x.Writes, api.Write{Page: i, Text: text})
			}
		}
		s, err := store.Open(x)
		if err != api.OK {
			if s != nil || err != api.ErrCorrupt {
				t.Fatalf("Open: %d, want ErrCorrupt", err)
			}
			continue
		}
		opened++
		o := &both{s: s, l: s.Run()}
		o.put(t, key(3), "after", math.MaxInt32)
		o.flush(t)
		reopened(t, "a mixture", s.Disk(), o.l)
	}
	if opened < 10 || opened > 2990 {
		t.Errorf("%d of 3000 mixtures were opened, so the sample shows little", opened)
	}
}
