package disk_test

import (
	"fmt"
	"math"
	"slices"
	"strings"
	"testing"

	"annalist/api"
	"annalist/disk"
)

var (
	full = strings.Repeat("p", 3500)
	over = strings.Repeat("p", 3501)
)

// badPages are no pages of a disk with n pages.
func badPages(n int) []int {
	return []int{-1, n, n + 1, 201, 400, math.MinInt, math.MaxInt, math.MinInt32, math.MaxInt32, 1 << 32, -1 << 32}
}

// numbered is a disk of n pages with different contents, and writes to them in an order that repeats pages.
func numbered(pages, writes int) api.Disk {
	var d api.Disk
	for i := range pages {
		d.Pages = append(d.Pages, fmt.Sprint("page ", i))
	}
	for i := range writes {
		d.Writes = append(d.Writes, api.Write{Page: i * i * 7 % pages, Text: fmt.Sprint("write ", i)})
	}
	return d
}

// samples returns valid disks.
func samples() map[string]api.Disk {
	long := api.Disk{Pages: slices.Repeat([]string{full}, 201)}
	for i := range 400 {
		long.Writes = append(long.Writes, api.Write{Page: i % 201, Text: full[:3500-i]})
	}
	return map[string]api.Disk{
		"no pages":             {},
		"no pages, not nil":    {Pages: []string{}, Writes: []api.Write{}},
		"one page":             {Pages: []string{"a"}},
		"one page, 400 writes": numbered(1, 400),
		"two pages":            {Pages: []string{"a", "b"}, Writes: []api.Write{{Page: 1, Text: "c"}, {Page: 0, Text: "d"}}},
		"empty pages":          {Pages: make([]string, 201)},
		"empty writes":         {Pages: []string{"a", "b", "c"}, Writes: []api.Write{{Page: 1}, {Page: 1, Text: "x"}, {Page: 1}, {}}},
		"bytes of any value":   {Pages: []string{"\x00\xff", "\xc3\x28"}, Writes: []api.Write{{Page: 1, Text: "\x00"}}},
		"201 pages":            numbered(201, 0),
		"201 pages, 1 write":   numbered(201, 1),
		"201 pages, all":       numbered(201, 400),
		"as long as possible":  long,
		"ten pages":            numbered(10, 30),
	}
}

// invalid lists what Check rejects, with its error.
func invalid() []struct {
	name string
	d    api.Disk
	want api.Errno
} {
	two := []string{"a", "b"}
	good := api.Write{Page: 1, Text: full}
	none := api.Write{Page: 2}
	long := api.Write{Page: 1, Text: over}
	return []struct {
		name string
		d    api.Disk
		want api.Errno
	}{
		{"202 pages", api.Disk{Pages: make([]string, 202)}, api.ErrLarge},
		{"many pages", api.Disk{Pages: make([]string, 100000)}, api.ErrLarge},
		{"401 writes", api.Disk{Pages: two, Writes: make([]api.Write, 401)}, api.ErrLarge},
		{"202 pages before a write", api.Disk{Pages: make([]string, 202), Writes: []api.Write{{Page: -1}}}, api.ErrLarge},
		{"401 writes before a write", api.Disk{Writes: make([]api.Write, 401)}, api.ErrLarge},
		{"the first page is too long", api.Disk{Pages: []string{over, "b"}}, api.ErrLarge},
		{"the last page is too long", api.Disk{Pages: []string{"a", "b", over}}, api.ErrLarge},
		{"one of 201 pages is too long", api.Disk{Pages: append(make([]string, 200), over)}, api.ErrLarge},
		{"a page is much too long", api.Disk{Pages: []string{strings.Repeat("p", 1<<16)}}, api.ErrLarge},
		{"a page before a write", api.Disk{Pages: []string{over}, Writes: []api.Write{{Page: 1}}}, api.ErrLarge},
		{"the last page before a write", api.Disk{Pages: []string{"a", over}, Writes: []api.Write{{Page: 2}}}, api.ErrLarge},
		{"no page", api.Disk{Writes: []api.Write{{}}}, api.ErrArg},
		{"page after the last one", api.Disk{Pages: two, Writes: []api.Write{none}}, api.ErrArg},
		{"page -1", api.Disk{Pages: two, Writes: []api.Write{{Page: -1}}}, api.ErrArg},
		{"page 200 of 200", api.Disk{Pages: make([]string, 200), Writes: []api.Write{{Page: 200}}}, api.ErrArg},
		{"page 201 of 201", api.Disk{Pages: make([]string, 201), Writes: []api.Write{{Page: 201}}}, api.ErrArg},
		{"the last write has no page", api.Disk{Pages: two, Writes: []api.Write{good, good, none}}, api.ErrArg},
		{"the last of 400 writes has no page", api.Disk{Pages: two, Writes: append(make([]api.Write, 399), none)}, api.ErrArg},
		{"text too long", api.Disk{Pages: two, Writes: []api.Write{long}}, api.ErrLarge},
		{"the last text is too long", api.Disk{Pages: two, Writes: []api.Write{good, good, long}}, api.ErrLarge},
		{"a text that a later write replaces", api.Disk{Pages: two, Writes: []api.Write{long, good}}, api.ErrLarge},
		{"page before text", api.Disk{Pages: two, Writes: []api.Write{{Page: 2, Text: over}}}, api.ErrArg},
		{"text of the first write, page of the second", api.Disk{Pages: two, Writes: []api.Write{long, none}}, api.ErrLarge},
		{"page of the first write, text of the second", api.Disk{Pages: two, Writes: []api.Write{none, long}}, api.ErrArg},
	}
}

// same compares disks field by field.
func same(x, y api.Disk) bool {
	return slices.Equal(x.Pages, y.Pages) && slices.Equal(x.Writes, y.Writes)
}

// none reports whether a disk is the zero value.
func none(d api.Disk) bool {
	return len(d.Pages) == 0 && len(d.Writes) == 0
}

// brief shortens a disk or a page for a message.
func brief(v any) string {
	s := fmt.Sprintf("%q", v)
	return s[:min(len(s), 300)]
}

func TestP38CheckAcceptsDisks(t *testing.T) {
	for name, d := range samples() {
		if err := disk.Check(d); err != api.OK {
			t.Errorf("%s: Check = %d, want OK", name, err)
		}
	}
}

func TestP38CheckRejectsOthers(t *testing.T) {
	for _, x := range invalid() {
		if err := disk.Check(x.d); err != x.want {
			t.Errorf("%s: Check = %d, want %d", x.name, err, x.want)
		}
	}
	for _, n := range []int{0, 1, 2, 201} {
		for _, i := range badPages(n) {
			if n == 0 || i < 0 || i >= n {
				if err := disk.Check(api.Disk{Pages: make([]string, n), Writes: []api.Write{{Page: i}}}); err != api.ErrArg {
					t.Errorf("a write to page %d of %d: Check = %d, want ErrArg", i, n, err)
				}
			}
		}
	}
}

// TestP38EachPlace makes each page and each write of a disk invalid in turn.
func TestP38EachPlace(t *testing.T) {
	for i := range 201 {
		d := numbered(201, 400)
		d.Pages[i] = over
		if err := disk.Check(d); err != api.ErrLarge {
			t.Errorf("page %d is too long: Check = %d, want ErrLarge", i, err)
		}
	}
	for i := range 400 {
		d := numbered(201, 400)
		d.Writes[i].Text = over
		if err := disk.Check(d); err != api.ErrLarge {
			t.Errorf("write %d is too long: Check = %d, want ErrLarge", i, err)
		}
		d.Writes[i].Page = 201
		if err := disk.Check(d); err != api.ErrArg {
			t.Errorf("write %d has no page: Check = %d, want ErrArg", i, err)
		}
	}
}

// current says what page i of a valid disk contains: the writes are searched from the end.
func current(d api.Disk, i int) string {
	for j := len(d.Writes) - 1; j >= 0; j-- {
		if d.Writes[j].Page == i {
			return d.Writes[j].Text
		}
	}
	return d.Pages[i]
}

func TestP39Read(t *testing.T) {
	d := api.Disk{
		Pages:  []string{"a", "b", "c", "d"},
		Writes: []api.Write{{Page: 1, Text: "x"}, {Page: 3, Text: "y"}, {Page: 1, Text: "z"}, {Page: 2}},
	}
	for i, want := range []string{"a", "z", "", "y"} {
		if got, err := disk.Read(d, i); got != want || err != api.OK {
			t.Errorf("Read(%d) = %s, %d, want %s, OK", i, brief(got), err, brief(want))
		}
	}
	for name, d := range samples() {
		for i := range d.Pages {
			if got, err := disk.Read(d, i); got != current(d, i) || err != api.OK {
				t.Errorf("%s: Read(%d) = %s, %d, want %s, OK", name, i, brief(got), err, brief(current(d, i)))
			}
		}
	}
}

func TestP39ReadOfNoPage(t *testing.T) {
	for name, d := range samples() {
		for _, i := range badPages(len(d.Pages)) {
			if i >= 0 && i < len(d.Pages) {
				continue
			}
			if got, err := disk.Read(d, i); got != "" || err != api.ErrArg {
				t.Errorf("%s: Read(%d) = %s, %d, want ErrArg", name, i, brief(got), err)
			}
		}
	}
}

func TestP39ReadReturnsTheErrorOfCheckFirst(t *testing.T) {
	for _, x := range invalid() {
		for _, i := range []int{0, 1, -1, len(x.d.Pages)} {
			if got, err := disk.Read(x.d, i); got != "" || err != x.want {
				t.Errorf("%s: Read(%d) = %s, %d, want %d", x.name, i, brief(got), err, x.want)
			}
		}
	}
}

func TestP40Put(t *testing.T) {
	for name, d := range samples() {
		if len(d.Writes) == 400 {
			continue
		}
		for i := range d.Pages {
			for _, s := range []string{"", "new", "\x00\xff", full} {
				got, err := disk.Put(d, i, s)
				want := api.Disk{Pages: d.Pages, Writes: append(slices.Clone(d.Writes), api.Write{Page: i, Text: s})}
				if !same(got, want) || err != api.OK {
					t.Fatalf("%s: Put(%d, %.9q) = %s, %d, want %s, OK", name, i, s, brief(got), err, brief(want))
				}
			}
		}
	}
}

// TestP40PutUntilFull: each of 400 writes is pending, also those to one page, and then nothing changes any more.
func TestP40PutUntilFull(t *testing.T) {
	for _, pages := range []int{1, 2, 200, 201} {
		d, want := numbered(pages, 0), numbered(pages, 400)
		for i, w := range want.Writes {
			var err api.Errno
			if d, err = disk.Put(d, w.Page, w.Text); err != api.OK || !slices.Equal(d.Writes, want.Writes[:i+1]) {
				t.Fatalf("Put of write %d: %s, %d", i, brief(d), err)
			}
			if got, _ := disk.Read(d, w.Page); got != w.Text {
				t.Fatalf("Read(%d) = %s, want %s", w.Page, brief(got), brief(w.Text))
			}
		}
		if !same(d, want) {
			t.Fatalf("after 400 writes: %s, want %s", brief(d), brief(want))
		}
		for i := range pages {
			if got, err := disk.Put(d, i, ""); !none(got) || err != api.ErrFull {
				t.Fatalf("Put of write 401 = %s, %d, want ErrFull", brief(got), err)
			}
		}
		synced, _ := disk.Sync(d)
		if got, err := disk.Put(synced, 0, "x"); len(got.Writes) != 1 || err != api.OK {
			t.Fatalf("Put after Sync = %s, %d, want one write", brief(got), err)
		}
	}
}

func TestP40PutReturnsTheFirstError(t *testing.T) {
	two, crowded, all := numbered(2, 3), numbered(2, 399), numbered(2, 400)
	for _, x := range []struct {
		name string
		d    api.Disk
		i    int
		s    string
		want api.Errno
	}{
		{"no pages", api.Disk{}, 0, "", api.ErrArg},
		{"no page", two, 2, "x", api.ErrArg},
		{"no page and too long", two, 2, over, api.ErrArg},
		{"no page on a full disk", all, 2, "x", api.ErrArg},
		{"everything wrong", all, -1, over, api.ErrArg},
		{"too long", two, 1, over, api.ErrLarge},
		{"much too long", two, 1, strings.Repeat("p", 1<<16), api.ErrLarge},
		{"too long on a full disk", all, 1, over, api.ErrLarge},
		{"full", all, 1, full, api.ErrFull},
		{"full, nothing new", all, all.Writes[399].Page, all.Writes[399].Text, api.ErrFull},
		{"nearly full, too long", crowded, 1, over, api.ErrLarge},
		{"nearly full, no page", crowded, 2, "", api.ErrArg},
	} {
		if got, err := disk.Put(x.d, x.i, x.s); !none(got) || err != x.want {
			t.Errorf("%s: Put = %s, %d, want %d", x.name, brief(got), err, x.want)
		}
	}
	for _, n := range []int{0, 1, 2, 201} {
		for _, i := range badPages(n) {
			if n == 0 || i < 0 || i >= n {
				if got, err := disk.Put(api.Disk{Pages: make([]string, n)}, i, ""); !none(got) || err != api.ErrArg {
					t.Errorf("Put to page %d of %d = %s, %d, want ErrArg", i, n, brief(got), err)
				}
			}
		}
	}
	for _, x := range invalid() {
		for _, i := range []int{0, -1, 1000} {
			for _, s := range []string{"x", over} {
				if got, err := disk.Put(x.d, i, s); !none(got) || err != x.want {
					t.Errorf("%s: Put(%d, ..) = %s, %d, want %d", x.name, i, brief(got), err, x.want)
				}
			}
		}
	}
}

// after says what the pages are when the writes that are kept have been performed: of each page the last such write.
func after(d api.Disk, kept func(i int) bool) []string {
	rest := api.Disk{Pages: d.Pages}
	for i, w := range d.Writes {
		if kept(i) {
			rest.Writes = append(rest.Writes, w)
		}
	}
	pages := make([]string, len(d.Pages))
	for i := range pages {
		pages[i] = current(rest, i)
	}
	return pages
}

func TestP41Sync(t *testing.T) {
	for name, d := range samples() {
		got, err := disk.Sync(d)
		want := api.Disk{Pages: after(d, func(int) bool { return true })}
		if !same(got, want) || err != api.OK {
			t.Errorf("%s: Sync = %s, %d, want %s, OK", name, brief(got), err, brief(want))
		}
		if again, err := disk.Sync(got); !same(again, want) || err != api.OK {
			t.Errorf("%s: a second Sync = %s, %d, want %s, OK", name, brief(again), err, brief(want))
		}
		for i := range d.Pages {
			before, _ := disk.Read(d, i)
			if now, err := disk.Read(got, i); now != before || err != api.OK {
				t.Errorf("%s: Read(%d) after Sync = %s, %d, before it was %s", name, i, brief(now), err, brief(before))
			}
		}
	}
}

// TestP41Example: a crash may preserve the last write and lose the one before it.
func TestP41Example(t *testing.T) {
	d := api.Disk{Pages: []string{"a", "b"}, Writes: []api.Write{{Page: 0, Text: "x"}, {Page: 1, Text: "y"}, {Page: 1, Text: "z"}}}
	for _, x := range []struct {
		kept []bool
		want []string
	}{
		{nil, []string{"a", "b"}},
		{[]bool{}, []string{"a", "b"}},
		{[]bool{false, false, false}, []string{"a", "b"}},
		{[]bool{true}, []string{"x", "b"}},
		{[]bool{false, true}, []string{"a", "y"}},
		{[]bool{false, false, true}, []string{"a", "z"}},
		{[]bool{true, true, false}, []string{"x", "y"}},
		{[]bool{true, false, true}, []string{"x", "z"}},
		{[]bool{true, true, true}, []string{"x", "z"}},
		{[]bool{false, true, false, true, true}, []string{"a", "y"}},
	} {
		if got, err := disk.Crash(d, x.kept); !same(got, api.Disk{Pages: x.want}) || err != api.OK {
			t.Errorf("Crash(%v) = %s, %d, want %q", x.kept, brief(got), err, x.want)
		}
	}
}

// TestP41EveryCrash tries all subsets of writes, and lists that end before or after the writes do.
func TestP41EveryCrash(t *testing.T) {
	for _, pages := range []int{1, 2, 3, 5} {
		for writes := range 8 {
			d := numbered(pages, writes)
			for length := range writes + 3 {
				for set := range 1 << length {
					kept := make([]bool, length)
					for i := range kept {
						kept[i] = set>>i&1 == 1
					}
					got, err := disk.Crash(d, kept)
					want := api.Disk{Pages: after(d, func(i int) bool { return set>>i&1 == 1 })}
					if !same(got, want) || err != api.OK {
						t.Fatalf("Crash(%v) of %s = %s, %d, want %s", kept, brief(d), brief(got), err, brief(want))
					}
				}
			}
		}
	}
}

func TestP41CrashOfSamples(t *testing.T) {
	for name, d := range samples() {
		for _, step := range []int{1, 2, 3, 50} {
			kept := make([]bool, 500)
			for i := range kept {
				kept[i] = i%step == step-1
			}
			for _, length := range []int{0, 1, 3, 399, 400, 401, 500} {
				got, err := disk.Crash(d, kept[:length])
				want := api.Disk{Pages: after(d, func(i int) bool { return i < length && kept[i] })}
				if !same(got, want) || err != api.OK {
					t.Errorf("%s: Crash that keeps each of %d among %d = %s, %d, want %s", name, step, length, brief(got), err, brief(want))
				}
			}
		}
	}
}

func TestP41TheErrorOfCheck(t *testing.T) {
	for _, x := range invalid() {
		if got, err := disk.Sync(x.d); !none(got) || err != x.want {
			t.Errorf("%s: Sync = %s, %d, want %d", x.name, brief(got), err, x.want)
		}
		for _, kept := range [][]bool{nil, {false}, {true}, make([]bool, 500), slices.Repeat([]bool{true}, 500)} {
			if got, err := disk.Crash(x.d, kept); !none(got) || err != x.want {
				t.Errorf("%s: Crash(%v) = %s, %d, want %d", x.name, kept, brief(got), err, x.want)
			}
		}
	}
}

// spare copies a slice into one with capacity to spare.
func spare[E any](l []E) []E {
	return append(make([]E, 0, len(l)+3), l...)
}

// roomy copies a disk into slices with capacity to spare.
func roomy(d api.Disk) api.Disk {
	return api.Disk{Pages: spare(d.Pages), Writes: spare(d.Writes)}
}

// whole is a disk with what lies in the spare capacity of its slices.
func whole(d api.Disk) api.Disk {
	return api.Disk{Pages: d.Pages[:cap(d.Pages)], Writes: d.Writes[:cap(d.Writes)]}
}

// spoil writes over all memory of a disk.
func spoil(d api.Disk) {
	d = whole(d)
	for i := range d.Pages {
		d.Pages[i] = "spoiled"
	}
	for i := range d.Writes {
		d.Writes[i] = api.Write{Page: -7, Text: "spoiled"}
	}
}

func TestP2DisksAreNotModifiedNorShared(t *testing.T) {
	calls := map[string]func(d api.Disk) (api.Disk, api.Errno){
		"Put":   func(d api.Disk) (api.Disk, api.Errno) { return disk.Put(d, 0, "new") },
		"Sync":  disk.Sync,
		"Crash": func(d api.Disk) (api.Disk, api.Errno) { return disk.Crash(d, []bool{true, false, true}) },
	}
	for name, d := range samples() {
		for call, f := range calls {
			arg := roomy(d)
			first, firstErr := f(arg)
			want := roomy(first)
			spoil(first)
			second, err := f(arg)
			if !same(second, want) || err != firstErr {
				t.Errorf("%s: a second %s = %s, %d, want %s, %d", name, call, brief(second), err, brief(want), firstErr)
			}
			disk.Check(arg)
			disk.Read(arg, 0)
			if !same(whole(arg), whole(roomy(d))) {
				t.Errorf("%s: %s modified the disk, or its result shares memory with it", name, call)
			}
		}
	}
}

// TestP2ResultsStay: two disks that follow from the same one do not share the memory of their last write.
func TestP2ResultsStay(t *testing.T) {
	d := roomy(numbered(3, 2))
	x, _ := disk.Put(d, 1, "x")
	y, _ := disk.Put(x, 2, "y")
	z, _ := disk.Put(x, 2, "z")
	if got := y.Writes[3]; got != (api.Write{Page: 2, Text: "y"}) {
		t.Errorf("the last write is %s after a Put to the disk before it", brief(got))
	}
	spoil(y)
	if got := z.Writes[2]; got != (api.Write{Page: 1, Text: "x"}) || z.Pages[0] != "page 0" {
		t.Errorf("disks share memory: %s", brief(z))
	}
}

func TestP2KeptIsNotModified(t *testing.T) {
	kept := spare([]bool{true, false, true})
	disk.Crash(numbered(4, 9), kept)
	if !slices.Equal(kept[:cap(kept)], []bool{true, false, true, false, false, false}) {
		t.Errorf("Crash modified the list: %v", kept[:cap(kept)])
	}
}
