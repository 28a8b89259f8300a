package fs_test

import (
	"fmt"
	"maps"
	"math/rand/v2"
	"slices"
	"strings"
	"testing"

	"annalist/api"
	"annalist/dir"
	"annalist/file"
	"annalist/fs"
	"annalist/prune"
	"annalist/run"
)

// object is an object of a model. A file has no map.
type object struct {
	number int
	has    map[string]*object
	text   string
}

// copied is an object with all that is in it.
func (o *object) copied() *object {
	c := &object{number: o.number, text: o.text}
	if o.has != nil {
		c.has = map[string]*object{}
		for name, x := range o.has {
			c.has[name] = x.copied()
		}
	}
	return c
}

// walk returns the object to which names lead.
func (o *object) walk(names []string) (*object, api.Errno) {
	for _, name := range names {
		if o.has == nil {
			return nil, api.ErrKind
		}
		next, is := o.has[name]
		if !is {
			return nil, api.ErrNone
		}
		o = next
	}
	return o, api.OK
}

// spot is what a path means for a change: a name in a directory, and the object that has it. The root has no directory.
type spot struct {
	in   *object
	name string
	has  *object
}

// model is what a file system must be: a tree of objects for each time that is kept, beside the records.
type model struct {
	past map[int]*object
	tid  int
	top  int
	l    []api.Elem
}

// now is the current tree.
func (m *model) now() *object {
	return m.past[m.tid]
}

// names splits a path that is one or is too long.
func names(path string) ([]string, api.Errno) {
	if path == "/" {
		return nil, api.OK
	}
	l := strings.Split(path, "/")[1:]
	if len(l) > 6 {
		return nil, api.ErrLarge
	}
	return l, api.OK
}

// find returns what a path means for a change of a tree.
func find(root *object, path string) (spot, api.Errno) {
	l, err := names(path)
	if err != api.OK || len(l) == 0 {
		return spot{has: root}, err
	}
	in, err := root.walk(l[:len(l)-1])
	if err == api.OK && in.has == nil {
		err = api.ErrKind
	}
	if err != api.OK {
		return spot{}, err
	}
	name := l[len(l)-1]
	return spot{in, name, in.has[name]}, api.OK
}

// draft is a model at the next time, while it is changed: the first error stays.
type draft struct {
	model
	root *object
	err  api.Errno
}

// do makes what a function returns the records, unless there was an error.
func (d *draft) do(l []api.Elem, err api.Errno) {
	if d.err != api.OK {
		return
	}
	d.err = err
	if err == api.OK {
		d.l = l
	}
}

// create adds an object.
func (d *draft) create(s spot, kind string) {
	d.top++
	o := &object{number: d.top}
	if kind == "d" {
		o.has = map[string]*object{}
	}
	s.in.has[s.name] = o
	d.do(run.Put(d.l, api.Key{Obj: d.top}, kind, d.tid))
	d.do(dir.Add(d.l, 0, s.in.number, s.name, d.top, d.tid))
}

// change performs a command as the chapter says, step by step.
func (d *draft) change(words []string) {
	s, err := find(d.root, words[1])
	if err != api.OK {
		d.err = err
		return
	}
	switch words[0] {
	case "mkdir":
		if s.has != nil {
			d.err = api.ErrThere
			return
		}
		d.create(s, "d")
	case "write":
		d.write(s, words[2])
	case "patch":
		d.patch(s, words[2], words[3])
	case "rm":
		d.remove(s)
	case "mv":
		d.move(s, words[1], words[2])
	}
}

func (d *draft) write(s spot, text string) {
	if s.has != nil && s.has.has != nil {
		d.err = api.ErrKind
		return
	}
	if s.has == nil {
		d.create(s, "f")
		s.has = s.in.has[s.name]
	}
	d.do(file.Set(d.l, 0, s.has.number, text, d.tid))
	s.has.text = text
}

func (d *draft) patch(s spot, digits, text string) {
	at := 0
	fmt.Sscan(digits, &at)
	switch {
	case s.has == nil:
		d.err = api.ErrNone
	case s.has.has != nil:
		d.err = api.ErrKind
	case at > len(s.has.text):
		d.err = api.ErrArg
	default:
		next := s.has.text[:at] + text
		if len(next) < len(s.has.text) {
			next += s.has.text[len(next):]
		}
		d.write(s, next)
	}
}

func (d *draft) remove(s spot) {
	switch {
	case s.in == nil:
		d.err = api.ErrArg
	case s.has == nil:
		d.err = api.ErrNone
	case len(s.has.has) > 0:
		d.err = api.ErrThere
	default:
		d.do(dir.Drop(d.l, 0, s.in.number, s.name, d.tid))
		d.do(file.Set(d.l, 0, s.has.number, "", d.tid))
		d.do(run.Cut(d.l, api.Key{Obj: s.has.number}, d.tid))
		delete(s.in.has, s.name)
	}
}

func (d *draft) move(s spot, from, path string) {
	if s.has == nil {
		d.err = api.ErrNone
		return
	}
	if from == "/" || strings.HasPrefix(path+"/", from+"/") {
		d.err = api.ErrArg
		return
	}
	to, err := find(d.root, path)
	if err == api.OK && to.has != nil {
		err = api.ErrThere
	}
	if err != api.OK {
		d.err = err
		return
	}
	d.do(dir.Drop(d.l, 0, s.in.number, s.name, d.tid))
	d.do(dir.Add(d.l, 0, to.in.number, to.name, s.has.number, d.tid))
	delete(s.in.has, s.name)
	to.in.has[to.name] = s.has
}

// change performs a command, or returns the error that it has.
func (m *model) change(line string) api.Errno {
	d := draft{model: *m, root: m.now().copied()}
	d.tid++
	words := strings.Split(strings.ReplaceAll(line, "_", ""), " ")
	d.change(words)
	if d.err == api.OK {
		*m = d.model
		m.past[m.tid] = d.root
	}
	return d.err
}

// prune keeps some of the times, and the current one.
func (m *model) prune(keep []int) {
	m.l, _ = prune.Kept(m.l, keep)
	maps.DeleteFunc(m.past, func(tid int, _ *object) bool {
		return tid != m.tid && !slices.Contains(keep, tid)
	})
}

// sees is what is seen at a path in a tree.
func (o *object) sees(path string) seen {
	l, err := names(path)
	if err == api.OK {
		o, err = o.walk(l)
	}
	switch {
	case err != api.OK:
		return seen{err: err}
	case o.has == nil:
		return seen{kind: "f", has: o.text}
	}
	return seen{kind: "d", has: strings.Join(slices.Sorted(maps.Keys(o.has)), " ")}
}

// story makes up commands about a few names, so that they meet.
type story struct {
	*rand.Rand
	names []string
}

// name is one of the names, the first ones more often than the others.
func (s story) name() string {
	return s.names[min(s.IntN(len(s.names)), s.IntN(len(s.names)))]
}

// path is a path, as a rule one to an object in a tree or to a place where there could be one.
func (s story) path(root *object) string {
	path := ""
	for o := root; o != nil && o.has != nil && len(o.has) > 0 && s.IntN(4) > 0; {
		all := slices.Sorted(maps.Keys(o.has))
		name := all[s.IntN(len(all))]
		path += "/" + name
		o = o.has[name]
	}
	for path == "" && s.IntN(10) > 0 || s.IntN(3) == 0 {
		path += "/" + s.name()
	}
	if path == "" {
		return "/"
	}
	return path
}

// line is a command.
func (s story) line(root *object) string {
	path := s.path(root)
	contents := text(s.IntN([]int{20, 80, 330}[s.IntN(3)]))
	switch s.IntN(10) {
	case 0, 1:
		return "mkdir " + s.below(path)
	case 2, 3, 4:
		return "write " + path + " " + contents
	case 5, 6:
		return fmt.Sprintf("patch %s %d %s", path, s.IntN(60), contents)
	case 7:
		return "rm " + path
	default:
		return "mv " + path + " " + s.below(s.path(root))
	}
}

// below is a path, often with one more name.
func (s story) below(path string) string {
	if s.IntN(2) == 0 {
		return path
	}
	return strings.TrimSuffix(path, "/") + "/" + s.name()
}

// TestP68ToP76Stories performs random commands and compares the records and the errors with those of a model,
// and what is seen at each time that was not pruned with a copy made then.
func TestP68ToP76Stories(t *testing.T) {
	met := map[string]int{}
	for seed := range uint64(12) {
		s := story{rand.New(rand.NewPCG(seed, 1)), alike(9)[:3+seed%7]}
		f := fs.New()
		m := &model{past: map[int]*object{1: {number: 1, has: map[string]*object{}}}, tid: 1, top: 1, l: []api.Elem{rec(1, 0, 1, 0, "d")}}
		for i := range 600 {
			line := s.line(m.now())
			got, want := perform(f, line), m.change(line)
			met[fmt.Sprint(strings.Fields(line)[0], want)]++
			if got != want {
				t.Fatalf("seed %d: %s: %d, want %d", seed, line, got, want)
			}
			if i == 50 || want == api.ErrFull && s.IntN(8) == 0 {
				keep := s.Perm(m.tid + 1)[:min(m.tid, s.IntN(5))]
				if err := f.Prune(keep); err != api.OK {
					t.Fatalf("seed %d: Prune %v: %d", seed, keep, err)
				}
				m.prune(keep)
			}
			is(t, fmt.Sprintf("seed %d: %s", seed, line), f, m.tid, m.l)
			if i%100 == 99 {
				looks(t, s, f, m)
			}
		}
	}
	for _, e := range []string{
		"mkdir0", "mkdir2", "mkdir4", "mkdir5", "mkdir8", "mkdir12", "write0", "write2", "write4", "write8", "write12",
		"patch0", "patch1", "patch2", "patch4", "patch8", "patch12", "rm0", "rm1", "rm2", "rm4", "rm5", "rm12", "mv0", "mv1", "mv2", "mv4", "mv5", "mv8", "mv12",
	} {
		if met[e] == 0 {
			t.Errorf("no story has %s: %v", e, met)
		}
	}
}

// looks fails the test unless at each time that was not pruned the right things are seen at some paths.
func looks(t *testing.T, s story, f *fs.FS, m *model) {
	t.Helper()
	for _, tid := range slices.Sorted(maps.Keys(m.past)) {
		for range 5 {
			path := s.path(m.past[tid])
			sees(t, f, path, tid, m.past[tid].sees(path))
		}
	}
}
