package fs

import (
	"slices"
	"testing"

	"annalist/api"
)

// These limits are so far away that a test cannot get there with calls, in a time that is worth it.

// modified performs each of the modifying methods.
func modified(f *FS) []api.Errno {
	return []api.Errno{f.Mkdir("/d"), f.Write("/x", "text"), f.Write("/new", ""), f.Patch("/x", 0, "x"), f.Move("/x", "/y"), f.Remove("/x")}
}

// TestP68LastTime: at the last time nothing can be modified, whatever other errors there are, but read and pruned.
func TestP68LastTime(t *testing.T) {
	f := New()
	f.Write("/x", "old")
	f.tid = api.MaxTid - 1
	if err := f.Write("/x", "last"); err != api.OK || f.Tid() != api.MaxTid {
		t.Fatalf("Write: %d at %d", err, f.Tid())
	}
	l := f.Run()
	for i, err := range append(modified(f), f.Mkdir(""), f.Remove("/"), f.Write("/", ""), f.Patch("/none", -1, ""), f.Move("/x", "/x")) {
		if err != api.ErrFull || f.Tid() != api.MaxTid || !slices.Equal(f.Run(), l) {
			t.Errorf("change %d: %d at %d", i, err, f.Tid())
		}
	}
	if s, err := f.Read("/x", api.MaxTid); s != "last" || err != api.OK {
		t.Errorf("Read: %q, %d", s, err)
	}
	if s, err := f.Read("/x", api.MaxTid-1); s != "old" || err != api.OK {
		t.Errorf("Read: %q, %d", s, err)
	}
	if n, err := f.Count(api.MaxTid); n != 4 || err != api.OK {
		t.Errorf("Count: %d, %d", n, err)
	}
	if _, err := f.Count(api.MaxTid + 1); err != api.ErrTid {
		t.Errorf("Count: %d", err)
	}
	if err := f.Prune(nil); err != api.OK || len(f.Run()) != 4 || f.Tid() != api.MaxTid {
		t.Errorf("Prune: %d, %v", err, f.Run())
	}
}

// TestP70P71LastNumber: the last object has the number 2^20. Those that are there can be changed all the same.
func TestP70P71LastNumber(t *testing.T) {
	for _, create := range []func(f *FS) api.Errno{
		func(f *FS) api.Errno { return f.Mkdir("/last") },
		func(f *FS) api.Errno { return f.Write("/last", "") },
	} {
		f := New()
		f.Write("/x", "old")
		f.top = api.MaxObj - 1
		if err := create(f); err != api.OK {
			t.Fatalf("creation: %d", err)
		}
		want := api.Elem{Key: api.Key{Obj: 1 << 20}, Made: 3}
		want.Val, _ = f.Kind("/last", 3)
		if !slices.Contains(f.Run(), want) {
			t.Errorf("%v is not in %v", want, f.Run())
		}
		l := f.Run()
		for i, err := range []api.Errno{f.Mkdir("/d"), f.Write("/new", ""), f.Write("/new", string(make([]byte, 321)))} {
			if err != api.ErrFull || f.Tid() != 3 || !slices.Equal(f.Run(), l) {
				t.Errorf("creation %d: %d at %d", i, err, f.Tid())
			}
		}
		for i, got := range []api.Errno{f.Mkdir("/last"), f.Write("/", ""), f.Write("/x", "new"), f.Patch("/x", 3, "!"), f.Move("/x", "/y"), f.Remove("/last"), f.Mkdir("/last")} {
			if want := []api.Errno{api.ErrThere, api.ErrKind, api.OK, api.OK, api.OK, api.OK, api.ErrFull}[i]; got != want {
				t.Errorf("call %d: %d, want %d", i, got, want)
			}
		}
	}
}
