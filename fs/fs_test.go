package fs_test

import (
	"fmt"
	"math"
	"slices"
	"strconv"
	"strings"
	"testing"

	"annalist/api"
	"annalist/fs"
	"annalist/key"
	"annalist/sum"
)

// rec is a record of an object.
func rec(obj, off, made, gone int, val string) api.Elem {
	return api.Elem{Key: api.Key{Obj: obj, Off: off}, Made: made, Gone: gone, Val: val}
}

// slot is a slot of a name, where 0 is the first one.
func slot(name string, i int) int {
	return 1000000 + 8*(sum.Of(name)%1000) + i
}

// name is the record in a directory that gives a name to the object of. It is in the first slot.
func name(obj int, name string, of, made, gone int) api.Elem {
	return rec(obj, slot(name, 0), made, gone, fmt.Sprint(of, ":", name))
}

// sorted is a list of records in the order of spots.
func sorted(l ...api.Elem) []api.Elem {
	return slices.SortedFunc(slices.Values(l), func(a, b api.Elem) int {
		return key.CmpSpot(api.Spot{Key: a.Key, Made: a.Made}, api.Spot{Key: b.Key, Made: b.Made})
	})
}

// alike are n names that have the same slots as a, which is the first of them.
func alike(n int) []string {
	names := []string{"a"}
	for i := 0; len(names) < n; i++ {
		if name := fmt.Sprint("n", i); slot(name, 0) == slot("a", 0) {
			names = append(names, name)
		}
	}
	return names
}

// text is a string of n bytes in which no two blocks are equal.
func text(n int) string {
	var b strings.Builder
	for i := 0; b.Len() < n; i++ {
		fmt.Fprintf(&b, "<%02d\x00\xff>", i)
	}
	return b.String()[:n]
}

// perform performs a command: the name of a method, and its arguments, separated by spaces. _ is the empty string.
func perform(f *fs.FS, line string) api.Errno {
	words := strings.Split(line, " ")
	for i := range words {
		words[i] = strings.TrimPrefix(words[i], "_")
	}
	switch words[0] {
	case "mkdir":
		return f.Mkdir(words[1])
	case "write":
		return f.Write(words[1], words[2])
	case "patch":
		at, err := strconv.Atoi(words[2])
		if err != nil {
			panic(line)
		}
		return f.Patch(words[1], at, words[3])
	case "rm":
		return f.Remove(words[1])
	case "mv":
		return f.Move(words[1], words[2])
	}
	panic(line)
}

// changed performs commands, none of which may return an error.
func changed(t *testing.T, f *fs.FS, lines ...string) *fs.FS {
	t.Helper()
	for _, line := range lines {
		if err := perform(f, line); err != api.OK {
			t.Fatalf("%s: %d", line, err)
		}
	}
	return f
}

// sample has a file and directories, with a history: see sampleRun.
func sample(t *testing.T) *fs.FS {
	t.Helper()
	return changed(t, fs.New(), sampleLines...)
}

var sampleLines = []string{
	"mkdir /d",         // 2
	"write /d/x one",   // 3
	"mkdir /d/e",       // 4
	"write /d/x two",   // 5
	"mv /d/x /y",       // 6
	"mkdir /d/x",       // 7
	"write /d/x/z _",   // 8
	"rm /d/x/z",        // 9
	"write /g text",    // 10
	"rm /d/e",          // 11
	"write /d/e other", // 12
}

// sampleRun are the records of the sample.
func sampleRun() []api.Elem {
	return sorted(
		rec(1, 0, 1, 0, "d"), name(1, "d", 2, 2, 0), name(1, "y", 3, 6, 0), name(1, "g", 7, 10, 0),
		rec(2, 0, 2, 0, "d"), name(2, "x", 3, 3, 6), name(2, "e", 4, 4, 11), name(2, "x", 5, 7, 0), name(2, "e", 8, 12, 0),
		rec(3, 0, 3, 0, "f"), rec(3, 1, 3, 5, "one"), rec(3, 1, 5, 0, "two"),
		rec(4, 0, 4, 11, "d"),
		rec(5, 0, 7, 0, "d"), name(5, "z", 6, 8, 9),
		rec(6, 0, 8, 9, "f"),
		rec(7, 0, 10, 0, "f"), rec(7, 1, 10, 0, "text"),
		rec(8, 0, 12, 0, "f"), rec(8, 1, 12, 0, "other"),
	)
}

// is fails the test unless a file system has this time and these records.
func is(t *testing.T, call string, f *fs.FS, tid int, want []api.Elem) {
	t.Helper()
	if got := f.Run(); f.Tid() != tid || !slices.Equal(got, want) {
		t.Fatalf("%s: at %d %v, want at %d %v", call, f.Tid(), got, tid, want)
	}
}

// rejects fails the test unless each command returns the error and changes nothing.
func rejects(t *testing.T, f *fs.FS, want api.Errno, lines ...string) {
	t.Helper()
	tid, l := f.Tid(), f.Run()
	for _, line := range lines {
		if err := perform(f, line); err != want {
			t.Errorf("%s: %d, want %d", line, err, want)
		}
		is(t, line, f, tid, l)
	}
}

// filled is a file system with n records, four at least: the root and the file /fill.
func filled(t *testing.T, n int, lines ...string) *fs.FS {
	t.Helper()
	f := changed(t, fs.New(), lines...)
	for i := 0; i < n && len(f.Run()) < n; i++ {
		changed(t, f, fmt.Sprint("write /fill ", i))
	}
	if len(f.Run()) != n {
		t.Fatalf("%d records, want %d", len(f.Run()), n)
	}
	return f
}

func TestP68New(t *testing.T) {
	f := fs.New()
	root := []api.Elem{rec(1, 0, 1, 0, "d")}
	is(t, "New", f, 1, root)
	if kind, err := f.Kind("/", 1); kind != "d" || err != api.OK {
		t.Errorf("Kind: %q, %d", kind, err)
	}
	if l, err := f.List("/", 1); len(l) != 0 || err != api.OK {
		t.Errorf("List: %q, %d", l, err)
	}
	if n, err := f.Count(1); n != 1 || err != api.OK {
		t.Errorf("Count: %d, %d", n, err)
	}
	g := fs.New()
	changed(t, f, "mkdir /d")
	is(t, "another New", g, 1, root)
}

// TestP68Records looks at all records after each command.
func TestP68Records(t *testing.T) {
	root, d, x := rec(1, 0, 1, 0, "d"), rec(2, 0, 2, 0, "d"), rec(3, 0, 3, 0, "f")
	inRoot, inD := name(1, "d", 2, 2, 0), name(2, "x", 3, 3, 0)
	moved, gone, y := name(2, "x", 3, 3, 6), name(1, "d", 2, 2, 7), name(1, "y", 3, 6, 0)
	f := fs.New()
	for i, step := range []struct {
		line string
		want []api.Elem
	}{
		{"mkdir /d", []api.Elem{root, inRoot, d}},
		{"write /d/x 0123456789abcdefrest", []api.Elem{root, inRoot, d, inD, x, rec(3, 1, 3, 0, "0123456789abcdef"), rec(3, 2, 3, 0, "rest")}},
		{"write /d/x 0123456789abcdef", []api.Elem{root, inRoot, d, inD, x, rec(3, 1, 3, 0, "0123456789abcdef"), rec(3, 2, 3, 4, "rest")}},
		{"patch /d/x 16 !", []api.Elem{root, inRoot, d, inD, x, rec(3, 1, 3, 0, "0123456789abcdef"), rec(3, 2, 3, 4, "rest"), rec(3, 2, 5, 0, "!")}},
		{"mv /d/x /y", []api.Elem{root, inRoot, y, d, moved, x, rec(3, 1, 3, 0, "0123456789abcdef"), rec(3, 2, 3, 4, "rest"), rec(3, 2, 5, 0, "!")}},
		{"rm /d", []api.Elem{root, gone, y, rec(2, 0, 2, 7, "d"), moved, x, rec(3, 1, 3, 0, "0123456789abcdef"), rec(3, 2, 3, 4, "rest"), rec(3, 2, 5, 0, "!")}},
		{"rm /y", []api.Elem{
			root, gone, name(1, "y", 3, 6, 8), rec(2, 0, 2, 7, "d"), moved, rec(3, 0, 3, 8, "f"),
			rec(3, 1, 3, 8, "0123456789abcdef"), rec(3, 2, 3, 4, "rest"), rec(3, 2, 5, 8, "!"),
		}},
	} {
		changed(t, f, step.line)
		is(t, step.line, f, 2+i, sorted(step.want...))
	}
	is(t, "the sample", sample(t), 12, sampleRun())
}

// TestP68TimeOfNothing: also a change that changes no record takes place at a time of its own. Reading and pruning does not.
func TestP68TimeOfNothing(t *testing.T) {
	f := changed(t, fs.New(), "write /x text")
	l := f.Run()
	changed(t, f, "write /x text", "patch /x 4 _", "patch /x 0 te", "patch /x 2 _")
	is(t, "writing the same", f, 6, l)
	f.Kind("/x", 6)
	f.Read("/x", 6)
	f.List("/", 6)
	f.Count(6)
	is(t, "reading", f, 6, l)
	if err := f.Prune(nil); err != api.OK {
		t.Errorf("Prune: %d", err)
	}
	is(t, "pruning", f, 6, l)
	changed(t, f, "write /x more")
	is(t, "writing", f, 7, sorted(l[0], l[1], l[2], rec(2, 1, 2, 7, "text"), rec(2, 1, 7, 0, "more")))
}

// numbers are the numbers of the objects that were created at a time.
func numbers(f *fs.FS, tid int) []int {
	var l []int
	for _, e := range f.Run() {
		if e.Key.Off == 0 && e.Made == tid {
			l = append(l, e.Key.Obj)
		}
	}
	return l
}

// TestP68Numbers: a number is that of one object only, also if this is removed. A change that fails takes none.
func TestP68Numbers(t *testing.T) {
	f := fs.New()
	for i, line := range []string{"mkdir /a", "write /b _", "rm /b", "write /c text", "mv /c /d", "rm /d", "rm /a", "mkdir /a", "write /d x"} {
		rejects(t, f, api.ErrNone, "mkdir /none/x", "write /none/x text")
		rejects(t, f, api.ErrThere, "mkdir /")
		if err := f.Write("/large", text(321)); err != api.ErrLarge {
			t.Errorf("Write of 321 bytes: %d", err)
		}
		changed(t, f, line)
		want := [][]int{{2}, {3}, nil, {4}, nil, nil, nil, {5}, {6}}[i]
		if got := numbers(f, 2+i); !slices.Equal(got, want) {
			t.Errorf("%s: created %v, want %v", line, got, want)
		}
	}
}

// TestP68NumbersAfterPruning: the greatest number so far counts also if no record has it any more.
func TestP68NumbersAfterPruning(t *testing.T) {
	f := changed(t, fs.New(), "mkdir /a", "write /b text", "rm /b", "rm /a")
	if err := f.Prune(nil); err != api.OK {
		t.Errorf("Prune: %d", err)
	}
	is(t, "pruning", f, 5, []api.Elem{rec(1, 0, 1, 0, "d")})
	changed(t, f, "mkdir /c")
	is(t, "creation", f, 6, sorted(rec(1, 0, 1, 0, "d"), name(1, "c", 4, 6, 0), rec(4, 0, 6, 0, "d")))
}

// badPaths are none: ErrForm.
var badPaths = []string{
	"", "a", "d", "d/x", "a/", "//", "///", "/d/", "//d", "/d//x", "/d/x/", "/.", "/..", "/./d", "/d/.", "/d/..", "/d/../d", " /d", "/d ", "/ ",
	"/d/a b", "/a@b", "/d/@", "/d\x00", "/\x7f", "/\xff", "/\u00e9", "\\d", "/d\n", "/thirteen-byte", "/d/thirteen-byte", "/d/thirteen-byte/x",
	"/a/b/c/d/e/f/", "/a/b/c/d/e//f", "a/b/c/d/e/f/g", "/a/b/c/d/e/f/g/", "/a/b/c/d/e/f/.", "/a/b/c/d/e/f/g/h/i/@", "//a/b/c/d/e/f/g", "/../a/b/c/d/e/f/g",
	strings.Repeat("/", 10000), strings.Repeat("a", 10000), strings.Repeat("/a", 10000) + "/",
}

// longPaths have more than six names, all of which are valid: ErrLarge.
var longPaths = []string{
	"/a/b/c/d/e/f/g", "/d/x/d/x/d/x/d", "/d/d/d/d/d/d/d/d", "/.../a/a/a/a/a/a", strings.Repeat("/twelve-bytes", 7), strings.Repeat("/a", 10000),
}

// calls are the methods with a path, with other arguments that fit the sample.
func calls(f *fs.FS, t int) map[string]func(path string) api.Errno {
	return map[string]func(path string) api.Errno{
		"Kind": func(path string) api.Errno {
			kind, err := f.Kind(path, t)
			return zero(err, kind == "")
		},
		"Read": func(path string) api.Errno {
			s, err := f.Read(path, t)
			return zero(err, s == "")
		},
		"List": func(path string) api.Errno {
			l, err := f.List(path, t)
			return zero(err, len(l) == 0)
		},
	}
}

// changes are the methods that change something at a path, with other arguments that fit the sample.
func changes(f *fs.FS) map[string]func(path string) api.Errno {
	return map[string]func(path string) api.Errno{
		"Mkdir":     f.Mkdir,
		"Write":     func(path string) api.Errno { return f.Write(path, "s") },
		"Patch":     func(path string) api.Errno { return f.Patch(path, 0, "s") },
		"Remove":    f.Remove,
		"Move from": func(path string) api.Errno { return f.Move(path, "/new") },
		"Move to":   func(path string) api.Errno { return f.Move("/y", path) },
	}
}

// zero is the error of a call, or -1 if there is one beside a result.
func zero(err api.Errno, none bool) api.Errno {
	if err != api.OK && !none {
		return -1
	}
	return err
}

// eachFails fails the test unless all calls return the error for all paths.
func eachFails(t *testing.T, calls map[string]func(string) api.Errno, want api.Errno, paths ...string) {
	t.Helper()
	for method, call := range calls {
		for _, path := range paths {
			if err := call(path); err != want {
				t.Errorf("%s %.50q: %d, want %d", method, path, err, want)
			}
		}
	}
}

// TestP69Form: what is no path is rejected before anything else, what is too long as well.
func TestP69Form(t *testing.T) {
	f := sample(t)
	for _, tid := range []int{math.MinInt, -1, 0, 1, 12, 13, math.MaxInt} {
		eachFails(t, calls(f, tid), api.ErrForm, badPaths...)
		eachFails(t, calls(f, tid), api.ErrLarge, longPaths...)
	}
	eachFails(t, changes(f), api.ErrForm, badPaths...)
	eachFails(t, changes(f), api.ErrLarge, longPaths...)
	is(t, "errors", f, 12, sampleRun())
}

// TestP69Bytes: a name has bytes from 33 to 126, but no slash and no @.
func TestP69Bytes(t *testing.T) {
	for b := range 256 {
		c := string([]byte{byte(b)})
		valid := b >= 33 && b <= 126 && c != "/" && c != "@"
		for _, path := range []string{"/" + c + "x", "/x" + c, "/d/x" + c} {
			f := changed(t, fs.New(), "mkdir /d")
			want := api.OK
			if !valid {
				want = api.ErrForm
			}
			if path == "/x/" || path == "/d/x/" || path == "//x" {
				want = api.ErrForm
			}
			if err := f.Write(path, c); err != want {
				t.Errorf("Write %q: %d, want %d", path, err, want)
			}
			if s, err := f.Read(path, f.Tid()); err != want || want == api.OK && s != c {
				t.Errorf("Read %q: %q, %d, want %d", path, s, err, want)
			}
		}
	}
}

// TestP69Depth: a path may have six names, of twelve bytes each.
func TestP69Depth(t *testing.T) {
	f := changed(t, fs.New(), "write /y text")
	path := ""
	for i := range 5 {
		path += fmt.Sprintf("/directory-%d!", i)
		changed(t, f, "mkdir "+path)
	}
	path += "/twelve-bytes"
	changed(t, f, "write "+path+" deep")
	if s, err := f.Read(path, 8); s != "deep" || err != api.OK || len(path) != 6*13 {
		t.Errorf("Read %s: %q, %d", path, s, err)
	}
	eachFails(t, changes(f), api.ErrLarge, path+"/x")
	eachFails(t, calls(f, 8), api.ErrLarge, path+"/x")
	changed(t, f, "rm "+path, "mkdir "+path)
	if kind, err := f.Kind(path, 10); kind != "d" || err != api.OK {
		t.Errorf("Kind: %q, %d", kind, err)
	}
}

// TestP69Times: only the times up to the current one can be read. At 0 there was no root.
func TestP69Times(t *testing.T) {
	f := sample(t)
	paths := []string{"/", "/d", "/y", "/d/x", "/none", "/none/x", "/y/x", "/d/x/y/z"}
	for _, tid := range []int{math.MinInt, math.MinInt32, -1, 13, 14, math.MaxInt32, 1 << 32, 1<<32 + 5, math.MaxInt} {
		eachFails(t, calls(f, tid), api.ErrTid, paths...)
	}
	eachFails(t, calls(f, 0), api.ErrNone, paths...)
	changed(t, f, "mkdir /new")
	if kind, err := f.Kind("/new", 13); kind != "d" || err != api.OK {
		t.Errorf("Kind: %q, %d", kind, err)
	}
	eachFails(t, calls(f, 14), api.ErrTid, paths...)
}

// seen is what must be seen at a path: its kind, the contents of a file or the names in a directory, or an error.
type seen struct {
	kind, has string
	err       api.Errno
}

// sees fails the test unless this is seen at a path at a time.
func sees(t *testing.T, f *fs.FS, path string, tid int, want seen) {
	t.Helper()
	read, list := want, want
	switch want.kind {
	case "d":
		read = seen{err: api.ErrKind}
	case "f":
		list = seen{err: api.ErrKind}
	}
	if got, err := f.Kind(path, tid); got != want.kind || err != want.err {
		t.Errorf("Kind %s at %d: %q, %d, want %v", path, tid, got, err, want)
	}
	if got, err := f.Read(path, tid); got != read.has || err != read.err {
		t.Errorf("Read %s at %d: %q, %d, want %v", path, tid, got, err, read)
	}
	got, err := f.List(path, tid)
	if !slices.Equal(got, strings.Fields(list.has)) || err != list.err {
		t.Errorf("List %s at %d: %q, %d, want %v", path, tid, got, err, list)
	}
}

// TestP69History looks at every path of the sample at every time. What is written there last is seen at the later times.
func TestP69History(t *testing.T) {
	f := sample(t)
	none, wrong := seen{err: api.ErrNone}, seen{err: api.ErrKind}
	for path, story := range map[string]map[int]seen{
		"/":        {0: none, 1: {kind: "d"}, 2: {kind: "d", has: "d"}, 6: {kind: "d", has: "d y"}, 10: {kind: "d", has: "d g y"}},
		"/d":       {0: none, 2: {kind: "d"}, 3: {kind: "d", has: "x"}, 4: {kind: "d", has: "e x"}, 6: {kind: "d", has: "e"}, 7: {kind: "d", has: "e x"}, 11: {kind: "d", has: "x"}, 12: {kind: "d", has: "e x"}},
		"/d/x":     {0: none, 3: {kind: "f", has: "one"}, 5: {kind: "f", has: "two"}, 6: none, 7: {kind: "d"}, 8: {kind: "d", has: "z"}, 9: {kind: "d"}},
		"/d/e":     {0: none, 4: {kind: "d"}, 11: none, 12: {kind: "f", has: "other"}},
		"/d/x/z":   {0: none, 3: wrong, 6: none, 8: {kind: "f"}, 9: none},
		"/d/x/z/w": {0: none, 3: wrong, 6: none, 8: wrong, 9: none},
		"/d/e/a":   {0: none, 12: wrong},
		"/d/e/a/b": {0: none, 12: wrong},
		"/y":       {0: none, 6: {kind: "f", has: "two"}},
		"/y/x":     {0: none, 6: wrong},
		"/y/x/z":   {0: none, 6: wrong},
		"/g":       {0: none, 10: {kind: "f", has: "text"}},
		"/x":       {0: none},
		"/d/y":     {0: none},
		"/x/d":     {0: none},
		"/D":       {0: none},
		"/dd":      {0: none},
	} {
		now := none
		for tid := range 13 {
			if next, is := story[tid]; is {
				now = next
			}
			sees(t, f, path, tid, now)
		}
	}
}

// TestP69TheRootIsADirectory whatever is in it.
func TestP69TheRootIsADirectory(t *testing.T) {
	f := fs.New()
	sees(t, f, "/", 1, seen{kind: "d"})
	changed(t, f, "write /b x", "mkdir /B", "write /a y", "mkdir /~", "write /! x")
	sees(t, f, "/", 6, seen{kind: "d", has: "! B a b ~"})
}

// TestP2RunsAndNamesAreNotShared overwrites results, with the spare capacity.
func TestP2RunsAndNamesAreNotShared(t *testing.T) {
	f := sample(t)
	l := f.Run()
	overwrite(l, rec(9, 9, 9, 0, "overwritten"))
	names, _ := f.List("/", 12)
	overwrite(names, "overwritten")
	is(t, "overwriting", f, 12, sampleRun())
	sees(t, f, "/", 12, seen{kind: "d", has: "d g y"})
}

// TestP2PruneDoesNotKeepItsArgument, nor does it change it.
func TestP2PruneDoesNotKeepItsArgument(t *testing.T) {
	f := sample(t)
	keep := []int{9, 3, 3, 5, 11, 11}
	f.Prune(keep[:4])
	l := f.Run()
	if !slices.Equal(keep, []int{9, 3, 3, 5, 11, 11}) {
		t.Errorf("Prune modified its argument: %v", keep)
	}
	overwrite(keep, 0)
	is(t, "overwriting", f, 12, l)
	sees(t, f, "/d/x", 3, seen{kind: "f", has: "one"})
}

// overwrite fills a slice and its spare capacity.
func overwrite[E any](l []E, mark E) {
	l = l[:cap(l)]
	for i := range l {
		l[i] = mark
	}
}

// TestP1NothingPanics calls everything with arguments of all sorts, also of a file system that New did not make.
func TestP1NothingPanics(t *testing.T) {
	paths := append(append([]string{"/", "/d", "/d/x", "/d/e", "/y", "/new", "/new/x", "/y/x"}, badPaths...), longPaths...)
	numbers := []int{math.MinInt, math.MinInt32, -1, 0, 1, 5, 12, 13, 321, math.MaxInt32, math.MaxInt}
	for _, f := range []*fs.FS{sample(t), filled(t, 400), {}} {
		f.Prune([]int{math.MinInt})
		for _, path := range paths {
			for _, n := range numbers {
				f.Kind(path, n)
				f.Read(path, n)
				f.List(path, n)
				f.Count(n)
				f.Patch(path, n, path)
			}
			for _, other := range paths {
				f.Move(path, other)
			}
			f.Mkdir(path)
			f.Write(path, path)
			f.Remove(path)
		}
		f.Prune(numbers)
		f.Prune(nil)
		f.Run()
	}
}

// TestP69WithoutRoot: a file system that New did not make has no root, so there is nothing at any path.
func TestP69WithoutRoot(t *testing.T) {
	f := &fs.FS{}
	is(t, "no New", f, 0, nil)
	eachFails(t, calls(f, 0), api.ErrNone, "/", "/d", "/d/x")
	all := changes(f)
	delete(all, "Move to")
	eachFails(t, all, api.ErrNone, "/", "/d", "/d/x")
	is(t, "errors", f, 0, nil)
}
