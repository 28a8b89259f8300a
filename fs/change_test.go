package fs_test

import (
	"fmt"
	"math"
	"slices"
	"strings"
	"testing"

	"annalist/api"
	"annalist/fs"
	"annalist/prune"
)

func TestP70Mkdir(t *testing.T) {
	f := changed(t, fs.New(), "mkdir /d", "mkdir /d/d", "mkdir /d/d/d", "mkdir /e")
	is(t, "Mkdir", f, 5, sorted(
		rec(1, 0, 1, 0, "d"), name(1, "d", 2, 2, 0), name(1, "e", 5, 5, 0),
		rec(2, 0, 2, 0, "d"), name(2, "d", 3, 3, 0),
		rec(3, 0, 3, 0, "d"), name(3, "d", 4, 4, 0),
		rec(4, 0, 4, 0, "d"), rec(5, 0, 5, 0, "d"),
	))
}

// TestP70Errors: those of the parent, then ErrThere.
func TestP70Errors(t *testing.T) {
	f := sample(t)
	rejects(t, f, api.ErrNone, "mkdir /none/x", "mkdir /none/none/x", "mkdir /d/none/x", "mkdir /d/x/z/w", "mkdir /none/x/d")
	rejects(t, f, api.ErrKind, "mkdir /y/a", "mkdir /y/a/b", "mkdir /d/e/a", "mkdir /d/e/a/b/c", "mkdir /g/y")
	rejects(t, f, api.ErrThere, "mkdir /", "mkdir /d", "mkdir /y", "mkdir /d/x", "mkdir /d/e")
	changed(t, f, "mkdir /d/x/z", "mkdir /x", "mkdir /d/y")
}

// TestP70Full: a directory needs two records. That it exists is found first.
func TestP70Full(t *testing.T) {
	f := filled(t, 398)
	changed(t, f, "mkdir /d")
	if n := len(f.Run()); n != 400 {
		t.Errorf("%d records", n)
	}
	for _, n := range []int{399, 400} {
		f := filled(t, n, "mkdir /d")
		rejects(t, f, api.ErrFull, "mkdir /e", "mkdir /d/e")
		rejects(t, f, api.ErrThere, "mkdir /d", "mkdir /fill", "mkdir /")
		rejects(t, f, api.ErrKind, "mkdir /fill/e")
		rejects(t, f, api.ErrNone, "mkdir /e/e")
		rejects(t, f, api.ErrForm, "mkdir e")
	}
}

// crowded has the directory /d, in which eight names take all slots of a ninth one, which is returned as well.
func crowded(t *testing.T) (*fs.FS, string) {
	t.Helper()
	f := changed(t, fs.New(), "mkdir /d")
	names := alike(9)
	for _, name := range names[:8] {
		changed(t, f, "write /d/"+name+" _")
	}
	return f, names[8]
}

// TestP70Slots: a name without a free slot cannot be added. In another directory it has one.
func TestP70Slots(t *testing.T) {
	f, ninth := crowded(t)
	rejects(t, f, api.ErrFull, "mkdir /d/"+ninth, "write /d/"+ninth+" text", "write /d/"+ninth+" "+text(321))
	rejects(t, f, api.ErrThere, "mkdir /d/a")
	changed(t, f, "mkdir /"+ninth, "mkdir /d/other", "rm /d/a", "mkdir /d/"+ninth)
	want := rec(2, slot("a", 0), 14, 0, "13:"+ninth)
	if !slices.Contains(f.Run(), want) {
		t.Errorf("%v is not in %v", want, f.Run())
	}
	rejects(t, f, api.ErrFull, "mkdir /d/a")
}

func TestP71Write(t *testing.T) {
	f := changed(t, fs.New(), "mkdir /d")
	for n := range 321 {
		path := []string{"/x", "/d/x", "/d/y"}[n%3]
		if err := f.Write(path, text(n)); err != api.OK {
			t.Fatalf("Write of %d bytes: %d", n, err)
		}
		sees(t, f, path, 3+n, seen{kind: "f"}.with(text(n)))
		if err := f.Prune(nil); err != api.OK {
			t.Fatalf("Prune: %d", err)
		}
	}
}

// with is the same with these contents.
func (s seen) with(has string) seen {
	s.has = has
	return s
}

// TestP71NewFile: the inode, the entry and the blocks have the same time. Without contents there are no blocks.
func TestP71NewFile(t *testing.T) {
	f := changed(t, fs.New(), "write /x 0123456789abcdefrest", "write /y _")
	want := sorted(
		rec(1, 0, 1, 0, "d"), name(1, "x", 2, 2, 0), name(1, "y", 3, 3, 0),
		rec(2, 0, 2, 0, "f"), rec(2, 1, 2, 0, "0123456789abcdef"), rec(2, 2, 2, 0, "rest"),
		rec(3, 0, 3, 0, "f"),
	)
	is(t, "Write", f, 3, want)
	changed(t, f, "write /x _", "write /y x")
	want[2].Gone = 0
	for i, e := range want {
		if e.Key.Obj == 2 && e.Key.Off > 0 {
			want[i].Gone = 4
		}
	}
	is(t, "Write", f, 5, append(want, rec(3, 1, 5, 0, "x")))
}

// TestP71Errors: those of the parent, ErrKind, those of file.Set.
func TestP71Errors(t *testing.T) {
	f := sample(t)
	for _, s := range []string{" _", " text", " " + text(320), " " + text(321), " " + text(10000)} {
		rejects(t, f, api.ErrNone, "write /none/x"+s, "write /none/none/x"+s, "write /d/none/x"+s, "write /d/x/z/w"+s)
		rejects(t, f, api.ErrKind, "write /y/a"+s, "write /y/a/b"+s, "write /d/e/a"+s, "write /g/y"+s, "write /"+s, "write /d"+s, "write /d/x"+s)
	}
	rejects(t, f, api.ErrLarge, "write /y "+text(321), "write /new "+text(321), "write /d/new "+text(10000), "write /d/x/z "+text(321))
	changed(t, f, "write /y "+text(320), "write /new "+text(320))
}

// TestP71Full: a new file needs two records, which are found to be too many before the contents are looked at.
// Contents need one for each block that changes, and those that are too large are found before.
func TestP71Full(t *testing.T) {
	for n, want := range map[int][3]api.Errno{
		396: {api.OK, api.OK, api.OK},
		397: {api.OK, api.OK, api.ErrFull},
		398: {api.OK, api.ErrFull, api.ErrFull},
		399: {api.ErrFull, api.ErrFull, api.ErrFull},
		400: {api.ErrFull, api.ErrFull, api.ErrFull},
	} {
		large := api.ErrLarge
		if want[0] == api.ErrFull {
			large = api.ErrFull
		}
		for blocks, err := range want {
			f := filled(t, n)
			rejects(t, f, large, "write /new "+text(321))
			rejects(t, f, api.ErrKind, "write / "+text(321), "write /fill/x _")
			rejects(t, f, api.ErrNone, "write /none/x _")
			if got := f.Write("/new", text(16*blocks)); got != err {
				t.Errorf("Write of %d blocks to a new file with %d records: %d, want %d", blocks, n, got, err)
			}
		}
	}
	for n, want := range map[int][]api.Errno{
		398: {api.OK, api.OK, api.OK, api.ErrFull},
		399: {api.OK, api.OK, api.ErrFull, api.ErrFull},
		400: {api.OK, api.ErrFull, api.ErrFull, api.ErrFull},
	} {
		for blocks, err := range want {
			f := filled(t, n)
			rejects(t, f, api.ErrLarge, "write /fill "+text(321))
			if got := f.Write("/fill", text(16*blocks)); got != err {
				t.Errorf("Write of %d blocks with %d records: %d, want %d", blocks, n, got, err)
			}
		}
	}
}

// TestP71FailureChangesNothing: a file whose contents do not fit is not created.
func TestP71FailureChangesNothing(t *testing.T) {
	f := filled(t, 397)
	rejects(t, f, api.ErrFull, "write /new "+text(17))
	rejects(t, f, api.ErrLarge, "write /new "+text(321))
	sees(t, f, "/new", f.Tid(), seen{err: api.ErrNone})
	changed(t, f, "write /new x")
	if got := numbers(f, f.Tid()); !slices.Equal(got, []int{3}) {
		t.Errorf("created %v", got)
	}
}

func TestP72Patch(t *testing.T) {
	f := changed(t, fs.New(), "mkdir /d", "write /d/x 0123456789abcdefrest", "patch /d/x 2 ABC", "patch /d/x 14 XYZ", "patch /d/x 20 .", "patch /d/x 21 "+strings.Repeat("!", 20))
	for tid, want := range map[int]string{
		3: "0123456789abcdefrest", 4: "01ABC56789abcdefrest", 5: "01ABC56789abcdXYZest", 6: "01ABC56789abcdXYZest.",
		7: "01ABC56789abcdXYZest.!!!!!!!!!!!!!!!!!!!!",
	} {
		sees(t, f, "/d/x", tid, seen{kind: "f", has: want})
	}
	is(t, "Patch", f, 7, sorted(
		rec(1, 0, 1, 0, "d"), name(1, "d", 2, 2, 0), rec(2, 0, 2, 0, "d"), name(2, "x", 3, 3, 0), rec(3, 0, 3, 0, "f"),
		rec(3, 1, 3, 4, "0123456789abcdef"), rec(3, 1, 4, 5, "01ABC56789abcdef"), rec(3, 1, 5, 0, "01ABC56789abcdXY"),
		rec(3, 2, 3, 5, "rest"), rec(3, 2, 5, 6, "Zest"), rec(3, 2, 6, 7, "Zest."), rec(3, 2, 7, 0, "Zest.!!!!!!!!!!!"),
		rec(3, 3, 7, 0, "!!!!!!!!!"),
	))
}

// TestP72Errors: those of the path, ErrKind, those of file.Patch.
func TestP72Errors(t *testing.T) {
	f := sample(t)
	for _, rest := range []string{" 0 _", " 0 x", " -1 x", " 9 x", " 0 " + text(321)} {
		rejects(t, f, api.ErrNone, "patch /none"+rest, "patch /none/x"+rest, "patch /d/none"+rest, "patch /d/x/z"+rest, "patch /d/x/z/w"+rest)
		rejects(t, f, api.ErrKind, "patch /y/a"+rest, "patch /d/e/a/b"+rest, "patch /"+rest, "patch /d"+rest, "patch /d/x"+rest)
	}
	for _, at := range []int{math.MinInt, -1, 4, 5, 320, 321, math.MaxInt} {
		rejects(t, f, api.ErrArg, fmt.Sprint("patch /y ", at, " x"), fmt.Sprint("patch /y ", at, " _"), fmt.Sprint("patch /y ", at, " ", text(321)))
	}
	rejects(t, f, api.ErrLarge, "patch /y 3 "+text(318), "patch /y 0 "+text(321), "patch /y 1 "+text(320))
	changed(t, f, "patch /y 3 "+text(317))
	sees(t, f, "/y", 13, seen{kind: "f"}.with("two"+text(317)))
	changed(t, f, "patch /y 320 _")
	rejects(t, f, api.ErrLarge, "patch /y 320 x")
}

// TestP72Full: a block that changes needs a record.
func TestP72Full(t *testing.T) {
	f := filled(t, 400)
	rejects(t, f, api.ErrFull, "patch /fill 0 x")
	rejects(t, f, api.ErrArg, "patch /fill 9 x")
	rejects(t, f, api.ErrLarge, "patch /fill 0 "+text(321))
	changed(t, f, "patch /fill 0 _")
	f = filled(t, 399)
	rejects(t, f, api.ErrFull, "patch /fill 0 "+text(17))
	changed(t, f, "patch /fill 0 x")
	rejects(t, f, api.ErrFull, "patch /fill 0 y")
}

func TestP73Remove(t *testing.T) {
	f := sample(t)
	want := sampleRun()
	for i, step := range []struct {
		path string
		obj  int
		dir  int
		name string
	}{{"/d/x", 5, 2, "5:x"}, {"/y", 3, 1, "3:y"}, {"/d/e", 8, 2, "8:e"}, {"/d", 2, 1, "2:d"}, {"/g", 7, 1, "7:g"}} {
		changed(t, f, "rm "+step.path)
		for j, e := range want {
			if e.Gone == 0 && (e.Key.Obj == step.obj || e.Key.Obj == step.dir && e.Val == step.name) {
				want[j].Gone = 13 + i
			}
		}
		is(t, "rm "+step.path, f, 13+i, want)
		sees(t, f, step.path, 13+i, seen{err: api.ErrNone})
	}
	if n, err := f.Count(17); n != 1 || err != api.OK {
		t.Errorf("Count: %d, %d", n, err)
	}
	sees(t, f, "/", 17, seen{kind: "d"})
	sees(t, f, "/d/e", 14, seen{kind: "f", has: "other"})
}

// TestP73Errors: those of the parent, ErrArg, ErrNone, ErrThere.
func TestP73Errors(t *testing.T) {
	f := sample(t)
	rejects(t, f, api.ErrNone, "rm /none", "rm /none/x", "rm /d/none", "rm /d/none/x", "rm /d/x/z", "rm /d/x/z/w")
	rejects(t, f, api.ErrKind, "rm /y/a", "rm /y/a/b", "rm /d/e/a")
	rejects(t, f, api.ErrArg, "rm /")
	rejects(t, f, api.ErrThere, "rm /d")
	changed(t, f, "rm /d/e")
	rejects(t, f, api.ErrThere, "rm /d")
	changed(t, f, "rm /d/x", "rm /d", "rm /y", "rm /g")
	rejects(t, f, api.ErrArg, "rm /")
	rejects(t, f, api.ErrNone, "rm /d", "rm /d/x", "rm /y", "rm /g")
}

// TestP73Full: nothing keeps objects from being removed. Their names are free then.
func TestP73Full(t *testing.T) {
	f := filled(t, 400, "mkdir /d", "write /d/x "+text(320))
	changed(t, f, "rm /d/x", "rm /d", "rm /fill")
	if n := len(f.Run()); n != 400 {
		t.Errorf("%d records", n)
	}
	f.Prune(nil)
	changed(t, f, "write /d _", "mkdir /fill")
}

// TestP74TheExample: a file that was written at 3 and moved at 6 can still be read at its old path at time 3.
func TestP74TheExample(t *testing.T) {
	f := changed(t, fs.New(), "mkdir /d", "write /d/x one", "write /d/x two", "patch /d/x 3 !", "mv /d/x /y")
	for path, l := range map[string][]string{"/d/x": {2: "", 3: "one", 4: "two", 5: "two!", 6: ""}, "/y": {5: "", 6: "two!"}} {
		for tid, has := range l {
			want := seen{kind: "f", has: has}
			if has == "" {
				want = seen{err: api.ErrNone}
			}
			sees(t, f, path, tid, want)
		}
	}
}

// TestP74Move: only the entries change, also if a directory that is not empty is moved.
func TestP74Move(t *testing.T) {
	f := sample(t)
	l := sampleRun()
	gone := func(val string, tid int) {
		i := slices.IndexFunc(l, func(e api.Elem) bool { return e.Val == val && e.Gone == 0 })
		l[i].Gone = tid
	}
	for i, step := range []struct {
		line, val string
		add       api.Elem
	}{
		{"mv /d /D", "2:d", name(1, "D", 2, 13, 0)},
		{"mv /D/e /D/x/z", "8:e", name(5, "z", 8, 14, 0)},
		{"mv /D/x /d", "5:x", name(1, "d", 5, 15, 0)},
		{"mv /D /d/D", "2:D", name(5, "D", 2, 16, 0)},
		{"mv /d /dd", "5:d", name(1, "dd", 5, 17, 0)},
		{"mv /dd/z /d", "8:z", name(1, "d", 8, 18, 0)},
	} {
		changed(t, f, step.line)
		gone(step.val, 13+i)
		l = sorted(append(l, step.add)...)
		is(t, step.line, f, 13+i, l)
	}
	sees(t, f, "/dd", 18, seen{kind: "d", has: "D"})
	sees(t, f, "/d", 18, seen{kind: "f", has: "other"})
	sees(t, f, "/dd/z", 17, seen{kind: "f", has: "other"})
	sees(t, f, "/d/z", 16, seen{kind: "f", has: "other"})
	sees(t, f, "/d/e", 12, seen{kind: "f", has: "other"})
}

// TestP74Back: an object gets its old name again, and its entry the old slot.
func TestP74Back(t *testing.T) {
	f := changed(t, fs.New(), "write /a x", "mv /a /b", "mv /b /a")
	is(t, "Move", f, 4, sorted(
		rec(1, 0, 1, 0, "d"), name(1, "a", 2, 2, 3), name(1, "b", 2, 3, 4), name(1, "a", 2, 4, 0), rec(2, 0, 2, 0, "f"), rec(2, 1, 2, 0, "x"),
	))
}

// TestP74Errors: those of the parent of from, ErrNone, ErrArg, those of the parent of to, ErrThere.
func TestP74Errors(t *testing.T) {
	f := sample(t)
	for _, to := range []string{"/", "/new", "/d", "/d/x", "/y", "/none/x", "/y/x", "", "new", "/a/b/c/d/e/f/g", "/d/x/new"} {
		rejects(t, f, api.ErrForm, "mv  "+to, "mv d "+to, "mv /d/ "+to)
		rejects(t, f, api.ErrLarge, "mv /d/x/a/a/a/a/a "+to)
		rejects(t, f, api.ErrNone, "mv /none "+to, "mv /none/x "+to, "mv /d/none "+to, "mv /d/x/z "+to, "mv /d/x/z/w "+to)
		rejects(t, f, api.ErrKind, "mv /y/a "+to, "mv /d/e/a/b "+to)
		rejects(t, f, api.ErrArg, "mv / "+to)
	}
	rejects(t, f, api.ErrNone, "mv /none /none", "mv /none /none/x", "mv /d/none /d/none/x")
	rejects(t, f, api.ErrArg,
		"mv /d /d", "mv /y /y", "mv /d/x /d/x", "mv /d /d/x", "mv /d /d/new", "mv /d /d/none/new", "mv /d /d/x/new", "mv /d/x /d/x/y/z",
		"mv /y /y/z", "mv /y /y/", "mv /y /y//", "mv /d /d/@", "mv /d /d/b/c/d/e/f/g/h")
	rejects(t, f, api.ErrForm, "mv /d ", "mv /d d", "mv /d /y/", "mv /y //", "mv /y /d/", "mv /d //d", "mv /d /@")
	rejects(t, f, api.ErrLarge, "mv /d /a/b/c/d/e/f/g", "mv /d/x /d/b/c/d/e/f/g")
	rejects(t, f, api.ErrNone, "mv /d /none/x", "mv /y /d/none/x", "mv /y /none/none/none", "mv /d /x/d")
	rejects(t, f, api.ErrKind, "mv /d /y/x", "mv /y /g/x", "mv /d/x /d/e/x", "mv /d/x /y/x/x")
	rejects(t, f, api.ErrThere, "mv /d /", "mv /y /", "mv /d /y", "mv /y /d", "mv /y /g", "mv /y /d/x", "mv /y /d/e", "mv /d/x /d/e", "mv /d/x /d", "mv /d/e /y")
	changed(t, f, "mv /y /yy", "mv /d /dd", "mv /dd/x /dd/xx", "mv /dd/e /d")
}

// TestP74Full: a move needs a record, but other errors are found first.
func TestP74Full(t *testing.T) {
	f := filled(t, 399, "mkdir /d", "write /x _")
	changed(t, f, "mv /x /d/y")
	for _, to := range []string{"/x", "/d/x"} {
		rejects(t, f, api.ErrFull, "mv /d/y "+to)
	}
	rejects(t, f, api.ErrThere, "mv /d/y /d", "mv /d/y /fill", "mv /d/y /")
	rejects(t, f, api.ErrKind, "mv /d/y /fill/x")
	rejects(t, f, api.ErrNone, "mv /d/y /x/x", "mv /x /y")
	rejects(t, f, api.ErrArg, "mv /d/y /d/y")
}

// TestP74Slots: a name without a free slot cannot be added. The entry that is deleted leaves its slot.
func TestP74Slots(t *testing.T) {
	f, ninth := crowded(t)
	changed(t, f, "write /x text")
	rejects(t, f, api.ErrFull, "mv /x /d/"+ninth)
	changed(t, f, "mv /d/"+alike(3)[2]+" /d/"+ninth)
	if want := rec(2, slot("a", 2), 12, 0, "5:"+ninth); !slices.Contains(f.Run(), want) {
		t.Errorf("%v is not in %v", want, f.Run())
	}
	rejects(t, f, api.ErrFull, "mv /x /d/"+alike(3)[2])
	changed(t, f, "mv /d/a /a", "mv /x /d/a")
	sees(t, f, "/d/a", 14, seen{kind: "f", has: "text"})
	sees(t, f, "/d/a", 12, seen{kind: "f"})
}

// TestP75Prune compares with prune.Kept. What was visible at the times that are kept stays so, and what is there now.
func TestP75Prune(t *testing.T) {
	for _, keep := range [][]int{nil, {0}, {3}, {5}, {5, 3}, {6, 6, 6}, {8}, {8, 4}, {12}, {1, 2, 3, 4, 5, 6, 7, 8, 9, 10, 11, 12}, {13}, {math.MaxInt32}} {
		f := sample(t)
		want, err := prune.Kept(sampleRun(), keep)
		if err != api.OK {
			t.Fatalf("Kept: %d", err)
		}
		before := views(f, 12)
		if err := f.Prune(keep); err != api.OK {
			t.Errorf("Prune %v: %d", keep, err)
		}
		is(t, fmt.Sprint("Prune ", keep), f, 12, want)
		after := views(f, 12)
		for tid := range 13 {
			if (tid == 12 || slices.Contains(keep, tid)) && after[tid] != before[tid] {
				t.Errorf("at %d there was %s, after Prune %v %s", tid, before[tid], keep, after[tid])
			}
		}
		changed(t, f, "rm /d/e", "mv /y /x", "write /d/x/z more")
	}
}

// views are descriptions of what is seen at some paths at the times up to the last one.
func views(f *fs.FS, last int) []string {
	var l []string
	for tid := range last + 1 {
		n, err := f.Count(tid)
		all := fmt.Sprint(n, err)
		for _, path := range []string{"/", "/d", "/d/x", "/d/e", "/d/x/z", "/y", "/g"} {
			kind, _ := f.Kind(path, tid)
			s, _ := f.Read(path, tid)
			names, err := f.List(path, tid)
			all += fmt.Sprintf(" %s %s %q %q %d", path, kind, s, names, err)
		}
		l = append(l, all)
	}
	return l
}

// TestP75Errors: too many times, then each of them.
func TestP75Errors(t *testing.T) {
	f := sample(t)
	for _, x := range []struct {
		keep []int
		want api.Errno
	}{
		{slices.Repeat([]int{3}, 21), api.ErrLarge}, {slices.Repeat([]int{-1}, 21), api.ErrLarge}, {make([]int, 1000), api.ErrLarge},
		{[]int{-1}, api.ErrTid}, {[]int{3, math.MinInt}, api.ErrTid}, {[]int{1 << 31, 3}, api.ErrTid}, {[]int{math.MaxInt}, api.ErrTid}, {append(make([]int, 19), -1), api.ErrTid},
	} {
		if err := f.Prune(x.keep); err != x.want {
			t.Errorf("Prune %v: %d, want %d", x.keep, err, x.want)
		}
		is(t, "an error", f, 12, sampleRun())
	}
	if err := f.Prune(slices.Repeat([]int{3}, 20)); err != api.OK {
		t.Errorf("Prune with 20 times: %d", err)
	}
}

// TestP75MakesRoom: what is pruned no longer counts.
func TestP75MakesRoom(t *testing.T) {
	f := filled(t, 400)
	rejects(t, f, api.ErrFull, "mkdir /d")
	tid := f.Tid()
	if err := f.Prune([]int{3}); err != api.OK {
		t.Errorf("Prune: %d", err)
	}
	if n := len(f.Run()); f.Tid() != tid || n != 5 {
		t.Errorf("%d records at %d", n, f.Tid())
	}
	sees(t, f, "/fill", 3, seen{kind: "f", has: "1"})
	sees(t, f, "/fill", tid, seen{kind: "f", has: "396"})
	changed(t, f, "mkdir /d", "write /fill more")
}

// TestP76Count counts the records of the sample that are live at each time.
func TestP76Count(t *testing.T) {
	f := sample(t)
	for tid, want := range []int{0, 1, 3, 6, 8, 8, 8, 10, 12, 10, 13, 11, 14} {
		if n, err := f.Count(tid); n != want || err != api.OK {
			t.Errorf("Count at %d: %d, %d, want %d", tid, n, err, want)
		}
	}
	for _, tid := range []int{math.MinInt, -1, 13, 14, math.MaxInt32, math.MaxInt} {
		if n, err := f.Count(tid); n != 0 || err != api.ErrTid {
			t.Errorf("Count at %d: %d, %d", tid, n, err)
		}
	}
	f.Prune([]int{3})
	for tid := range 13 {
		want := 0
		for _, e := range f.Run() {
			if e.Made <= tid && (e.Gone == 0 || tid < e.Gone) {
				want++
			}
		}
		if n, err := f.Count(tid); n != want || err != api.OK {
			t.Errorf("Count at %d after Prune: %d, %d, want %d", tid, n, err, want)
		}
	}
}
