package fs

import (
	"strings"

	"annalist/api"
	"annalist/dir"
	"annalist/run"
)

// All objects are in this realm. The root is the first of them.
const (
	pfs  = 0
	root = 1
)

// What the inode of an object says, or that there is none.
const (
	directory = "d"
	regular   = "f"
	absent    = ""
)

// inode returns the key of the record that says what an object is.
func inode(obj int) api.Key {
	return api.Key{Pfs: pfs, Obj: obj}
}

// place is where a path leads: a name in a directory, and the object that has it. The root has no name.
type place struct {
	parent int
	name   string
	obj    int
	kind   string
}

// split returns the names of a path, of which / has none.
func split(path string) ([]string, api.Errno) {
	before, rest, more := strings.Cut(path, "/")
	if before != "" || !more {
		return nil, api.ErrForm
	}
	if rest == "" {
		return nil, api.OK
	}
	var names []string
	for more {
		var name string
		name, rest, more = strings.Cut(rest, "/")
		if !dir.Name(name) {
			return nil, api.ErrForm
		}
		// There may be any number of names, but one too many is enough to know.
		if len(names) <= api.MaxParts {
			names = append(names, name)
		}
	}
	if len(names) > api.MaxParts {
		return nil, api.ErrLarge
	}
	return names, api.OK
}

// checkTime returns ErrTid if t is in the future, or before all times.
func (f *FS) checkTime(t int) api.Errno {
	if t < 0 || t > f.tid {
		return api.ErrTid
	}
	return api.OK
}

// find returns where a path leads at t. There need not be an object, but a directory in which it could be.
func (f *FS) find(path string, t int) (place, api.Errno) {
	names, err := split(path)
	if err != api.OK {
		return place{}, err
	}
	if err := f.checkTime(t); err != api.OK {
		return place{}, err
	}
	p := place{obj: root, kind: f.kind(root, t)}
	if p.kind == absent {
		return place{}, api.ErrNone
	}
	for _, name := range names {
		p, err = f.enter(p, name, t)
		if err != api.OK {
			return place{}, err
		}
	}
	return p, api.OK
}

// kind returns what an object is at t.
func (f *FS) kind(obj, t int) string {
	// Of a missing record the value is empty.
	e, _ := run.At(f.records, inode(obj), t)
	return e.Val
}

// enter returns where a name in p leads at t.
func (f *FS) enter(p place, name string, t int) (place, api.Errno) {
	if p.kind == absent {
		return place{}, api.ErrNone
	}
	if p.kind != directory {
		return place{}, api.ErrKind
	}
	obj, err := dir.Find(f.records, pfs, p.obj, name, t)
	if err == api.ErrNone {
		return place{parent: p.obj, name: name}, api.OK
	}
	return place{parent: p.obj, name: name, obj: obj, kind: f.kind(obj, t)}, err
}

// existing returns where a path leads at t, if there is an object.
func (f *FS) existing(path string, t int) (place, api.Errno) {
	p, err := f.find(path, t)
	if err != api.OK {
		return place{}, err
	}
	if p.kind == absent {
		return place{}, api.ErrNone
	}
	return p, api.OK
}

// object returns the number of the object to which a path leads at t, if it is of this kind.
func (f *FS) object(path string, t int, kind string) (int, api.Errno) {
	p, err := f.existing(path, t)
	if err != api.OK {
		return 0, err
	}
	if p.kind != kind {
		return 0, api.ErrKind
	}
	return p.obj, api.OK
}
