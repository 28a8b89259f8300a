package undo_test

import (
	"fmt"
	"math"
	"slices"
	"strings"
	"testing"

	"annalist/api"
	"annalist/disk"
	"annalist/frame"
	"annalist/undo"
)

var (
	full = strings.Repeat("v", 2900)
	over = strings.Repeat("v", 2901)
)

// four is n in four bytes.
func four(n int) string {
	var s string
	for _, unit := range []int{1 << 24, 1 << 16, 1 << 8, 1} {
		s += string([]byte{byte(n / unit % 256)})
	}
	return s
}

// framed is a frame of a kind.
func framed(kind int, body string) string {
	s, err := frame.Put(api.Frame{Kind: kind, Body: body})
	if err != api.OK {
		panic("no frame of the sample")
	}
	return s
}

// record is an undo record of a page.
func record(seq, page int, old string) string {
	return framed(9, four(seq)+four(page)+old)
}

// blank is a disk with a head and otherwise empty pages.
func blank(seq int, head string) api.Disk {
	d := api.Disk{Pages: make([]string, 201)}
	d.Pages[0] = framed(8, four(seq)+head)
	return d
}

// written is a disk with a head and with contents of different lengths in the pages with data.
func written(seq int, head string) api.Disk {
	d := blank(seq, head)
	for i := 1; i <= 100; i++ {
		d.Pages[i] = strings.Repeat(fmt.Sprint(i, " "), i%5)
	}
	return d
}

// with is a disk with further pending writes.
func with(d api.Disk, l ...api.Write) api.Disk {
	return api.Disk{Pages: slices.Clone(d.Pages), Writes: slices.Concat(d.Writes, l)}
}

// set is a disk with other contents of a page.
func set(d api.Disk, page int, text string) api.Disk {
	d = with(d)
	d.Pages[page] = text
	return d
}

// same compares disks field by field.
func same(x, y api.Disk) bool {
	return slices.Equal(x.Pages, y.Pages) && slices.Equal(x.Writes, y.Writes)
}

// none reports whether a disk is the zero value.
func none(d api.Disk) bool {
	return len(d.Pages) == 0 && len(d.Writes) == 0
}

// brief shortens a long text for a message.
func brief(s string) string {
	return fmt.Sprintf("%.60q of %d bytes", s, len(s))
}

// differences lists the pages in which two disks differ.
func differences(got, want api.Disk) string {
	if len(got.Pages) != len(want.Pages) {
		return fmt.Sprintf("%d pages, want %d", len(got.Pages), len(want.Pages))
	}
	var s string
	for i := range got.Pages {
		if got.Pages[i] != want.Pages[i] {
			s += fmt.Sprintf("page %d is %s, want %s; ", i, brief(got.Pages[i]), brief(want.Pages[i]))
		}
	}
	if !slices.Equal(got.Writes, want.Writes) {
		s += fmt.Sprintf("%d writes, want %d", len(got.Writes), len(want.Writes))
	}
	return s
}

func TestP42Head(t *testing.T) {
	for _, x := range []struct {
		seq  int
		text string
		want string
	}{
		{0, "", "\x08\x00\x04\x00\x00\x00\x00\x1a\xab"},
		{1, "ab", "\x08\x00\x06\x00\x00\x00\x01ab\xcb\x15"},
		{0x01020304, "\x00\xff", "\x08\x00\x06\x01\x02\x03\x04\x00\xff\xd0\x15"},
		{math.MaxInt32, "x", "\x08\x00\x05\x7f\xff\xff\xffx\x5d\x04"},
	} {
		if got, err := undo.Head(x.seq, x.text); got != x.want || err != api.OK {
			t.Errorf("Head(%d, %q) = %q, %d, want %q, OK", x.seq, x.text, got, err, x.want)
		}
	}
	for _, seq := range []int{0, 1, 255, 256, 65535, 65536, 1<<24 - 1, 1 << 24, math.MaxInt32 - 1, math.MaxInt32} {
		for _, text := range []string{"", "head", full[:248], full[:252], full[:2899], full} {
			if got, err := undo.Head(seq, text); got != framed(8, four(seq)+text) || err != api.OK {
				t.Errorf("Head(%d, %s) = %s, %d", seq, brief(text), brief(got), err)
			}
		}
	}
}

func TestP42HeadReturnsTheFirstError(t *testing.T) {
	for _, seq := range []int{-1, math.MaxInt32 + 1, 1 << 32, 1<<32 + 5, -1 << 32, math.MinInt32, math.MinInt, math.MaxInt} {
		for _, text := range []string{"", "head", full, over} {
			if got, err := undo.Head(seq, text); got != "" || err != api.ErrArg {
				t.Errorf("Head(%d, %s) = %s, %d, want ErrArg", seq, brief(text), brief(got), err)
			}
		}
	}
	for _, seq := range []int{0, 7, math.MaxInt32} {
		for _, text := range []string{over, strings.Repeat("v", 2996), strings.Repeat("v", 2997), strings.Repeat("v", 1<<16)} {
			if got, err := undo.Head(seq, text); got != "" || err != api.ErrLarge {
				t.Errorf("Head(%d, %s) = %s, %d, want ErrLarge", seq, brief(text), brief(got), err)
			}
		}
	}
}

func TestP43Seq(t *testing.T) {
	long := strings.Repeat("v", 2996) // more than Head takes, but a frame has room for it
	for _, seq := range []int{0, 1, 255, 256, 1 << 24, 0x01020304, math.MaxInt32 - 1, math.MaxInt32} {
		for _, head := range []string{"", "h", "\x00\xff\n", full, over, long} {
			for _, rest := range []string{"", "\x00", "rest", framed(8, four(9)+"other"), full[:400]} {
				page := framed(8, four(seq)+head) + rest
				d := api.Disk{Pages: make([]string, 201)}
				d.Pages[0] = page
				if n, s, err := undo.Seq(d); n != seq || s != head || err != api.OK {
					t.Fatalf("Seq of page %s = %d, %s, %d, want %d, %s, OK", brief(page), n, brief(s), err, seq, brief(head))
				}
			}
		}
	}
}

// TestP43SeqOfWhatIsPending: the last pending write to page 0 counts, and what page 0 was before may be anything.
func TestP43SeqOfWhatIsPending(t *testing.T) {
	pending := with(blank(6, "six"),
		api.Write{Page: 1, Text: framed(8, four(1)+"one")},
		api.Write{Page: 0, Text: framed(8, four(5)+"five")},
		api.Write{Page: 200, Text: framed(8, four(200)+"undo")})
	if n, s, err := undo.Seq(pending); n != 5 || s != "five" || err != api.OK {
		t.Errorf("Seq = %d, %q, %d, want 5, five, OK", n, s, err)
	}
	pending = with(pending, api.Write{Page: 0, Text: "lost"}, api.Write{Page: 0, Text: framed(8, four(7)+"seven")})
	if n, s, err := undo.Seq(set(pending, 0, "nothing")); n != 7 || s != "seven" || err != api.OK {
		t.Errorf("Seq = %d, %q, %d, want 7, seven, OK", n, s, err)
	}
	if n, s, err := undo.Seq(with(pending, api.Write{Page: 0})); n != 0 || s != "" || err != api.ErrCorrupt {
		t.Errorf("Seq = %d, %q, %d, want ErrCorrupt: page 0 becomes empty", n, s, err)
	}
}

// noHeads are no contents of page 0.
func noHeads() map[string]string {
	head := framed(8, four(3)+"head")
	return map[string]string{
		"nothing":               "",
		"a zero":                "\x00",
		"zeros":                 strings.Repeat("\x00", 3500),
		"no frame":              strings.Repeat("\xff", 3500),
		"kind 1":                framed(1, four(3)+"head"),
		"kind 7":                framed(7, four(3)+"head"),
		"kind 9":                framed(9, four(3)+four(1)),
		"kind 255":              framed(255, four(3)+"head"),
		"no number":             framed(8, ""),
		"three bytes":           framed(8, "\x00\x00\x03"),
		"three bytes, and more": framed(8, "\x00\x00\x03") + "head",
		"number too large":      framed(8, "\x80\x00\x00\x00head"),
		"greatest number":       framed(8, "\xff\xff\xff\xff"),
		"half a frame":          head[:len(head)-1],
		"four bytes of it":      head[:4],
		"wrong checksum":        head[:len(head)-1] + "?",
		"a byte before it":      "?" + head,
		"a zero before it":      "\x00" + head,
		"another frame first":   framed(7, "") + head,
		"kind changed":          "\x09" + head[1:],
		"number changed":        head[:6] + "\x04" + head[7:],
	}
}

// invalid lists the disks for which Seq has an error.
func invalid() []struct {
	name string
	d    api.Disk
	want api.Errno
} {
	type sample = struct {
		name string
		d    api.Disk
		want api.Errno
	}
	good := blank(3, "head")
	short := api.Disk{Pages: good.Pages[:200]}
	bad := api.Write{Page: 201}
	tooLong := strings.Repeat("p", 3501)
	l := []sample{
		{"202 pages", api.Disk{Pages: append(blank(3, "head").Pages, "")}, api.ErrLarge},
		{"401 writes", with(good, make([]api.Write, 401)...), api.ErrLarge},
		{"page too long", set(good, 0, tooLong), api.ErrLarge},
		{"last page too long", set(good, 200, tooLong), api.ErrLarge},
		{"write too long", with(good, api.Write{Page: 9, Text: tooLong}), api.ErrLarge},
		{"write to no page", with(good, bad), api.ErrArg},
		{"write to page -1", with(good, api.Write{Page: -1}), api.ErrArg},
		{"no pages", api.Disk{}, api.ErrForm},
		{"one page", api.Disk{Pages: good.Pages[:1]}, api.ErrForm},
		{"101 pages", api.Disk{Pages: good.Pages[:101]}, api.ErrForm},
		{"200 pages", short, api.ErrForm},
		{"200 pages, one too long", set(short, 8, tooLong), api.ErrLarge},
		{"200 pages, write to no page", with(short, api.Write{Page: 200}), api.ErrArg},
		{"no pages, a write", with(api.Disk{}, api.Write{}), api.ErrArg},
		{"200 pages, no head", set(short, 0, "?"), api.ErrForm},
		{"no head, one page too long", set(set(good, 0, "?"), 7, tooLong), api.ErrLarge},
		{"no head, write to no page", with(set(good, 0, "?"), bad), api.ErrArg},
		{"a head on page 1 only", set(api.Disk{Pages: make([]string, 201)}, 1, good.Pages[0]), api.ErrCorrupt},
	}
	for name, page := range noHeads() {
		l = append(l, sample{name, set(good, 0, page), api.ErrCorrupt})
		l = append(l, sample{name + ", pending", with(good, api.Write{Page: 0, Text: page}), api.ErrCorrupt})
	}
	return l
}

func TestP43SeqRejects(t *testing.T) {
	for _, x := range invalid() {
		if n, s, err := undo.Seq(x.d); n != 0 || s != "" || err != x.want {
			t.Errorf("%s: Seq = %d, %s, %d, want %d", x.name, n, brief(s), err, x.want)
		}
	}
}

// expected says what Steps returns for a valid group: each disk with all its pages and writes.
func expected(d api.Disk, seq int, head string, l []api.Write) []api.Disk {
	now := with(d)
	var all []api.Disk
	sync := func() {
		for _, w := range now.Writes {
			now.Pages[w.Page] = w.Text
		}
		now.Writes = nil
		all = append(all, with(now))
	}
	put := func(page int, text string) {
		now.Writes = append(now.Writes, api.Write{Page: page, Text: text})
		all = append(all, with(now))
	}
	sync()
	for i, w := range l {
		put(101+i, record(seq+1, w.Page, now.Pages[w.Page]))
	}
	sync()
	for _, w := range l {
		put(w.Page, w.Text)
	}
	sync()
	put(0, framed(8, four(seq+1)+head))
	sync()
	return all
}

// group is n writes to pages with data, of different lengths. The first page is one of 1 to 100.
func group(n, first int) []api.Write {
	var l []api.Write
	for i := range n {
		l = append(l, api.Write{Page: (first-1+i*37)%100 + 1, Text: strings.Repeat("new", (i+first)%4)})
	}
	return l
}

// steps fails the test unless Steps returns the expected disks. It returns them.
func steps(t *testing.T, name string, d api.Disk, seq int, head string, l []api.Write) []api.Disk {
	t.Helper()
	got, err := undo.Steps(d, head, l)
	want := expected(d, seq, head, l)
	if err != api.OK || len(got) != len(want) || len(got) != 2*len(l)+5 {
		t.Fatalf("%s: %d disks, %d, want %d, OK", name, len(got), err, len(want))
	}
	for i := range got {
		if !same(got[i], want[i]) {
			t.Fatalf("%s: disk %d of %d: %s", name, i, len(got), differences(got[i], want[i]))
		}
	}
	return got
}

func TestP44Steps(t *testing.T) {
	for _, n := range []int{0, 1, 2, 3, 10, 99, 100} {
		for _, first := range []int{1, 50, 100} {
			for _, seq := range []int{0, 1, 255, 1 << 24, math.MaxInt32 - 1} {
				for _, head := range []string{"", "new head"} {
					name := fmt.Sprintf("%d pages from %d on, seq %d", n, first, seq)
					steps(t, name, blank(seq, "old"), seq, head, group(n, first))
					steps(t, name+", not empty", written(seq, ""), seq, head, group(n, first))
				}
			}
		}
	}
}

// TestP44Example writes out all disks of a group of two.
func TestP44Example(t *testing.T) {
	d := set(blank(6, "old"), 3, "three")
	all, err := undo.Steps(d, "new", []api.Write{{Page: 9, Text: "9"}, {Page: 3, Text: "3"}})
	if err != api.OK || len(all) != 9 {
		t.Fatalf("%d disks, %d, want 9, OK", len(all), err)
	}
	nine := api.Write{Page: 101, Text: "\x09\x00\x08\x00\x00\x00\x07\x00\x00\x00\x09\xa5\xc5"}
	three := api.Write{Page: 102, Text: "\x09\x00\x0d\x00\x00\x00\x07\x00\x00\x00\x03three\x30\x31"}
	head := api.Write{Text: "\x08\x00\x07\x00\x00\x00\x07new\xa6\xbb"}
	recorded := set(set(d, 101, nine.Text), 102, three.Text)
	done := set(set(recorded, 9, "9"), 3, "3")
	for i, want := range []api.Disk{
		d,
		with(d, nine),
		with(d, nine, three),
		recorded,
		with(recorded, api.Write{Page: 9, Text: "9"}),
		with(recorded, api.Write{Page: 9, Text: "9"}, api.Write{Page: 3, Text: "3"}),
		done,
		with(done, head),
		set(done, 0, head.Text),
	} {
		if !same(all[i], want) {
			t.Errorf("disk %d: %s", i, differences(all[i], want))
		}
	}
}

// TestP44PendingWrites: the current contents of pages count, also those of the head.
func TestP44PendingWrites(t *testing.T) {
	d := with(written(3, "three"),
		api.Write{Page: 5, Text: "lost"},
		api.Write{Page: 0, Text: framed(8, four(8)+"eight")},
		api.Write{Page: 5, Text: "five"},
		api.Write{Page: 101, Text: "no record"},
		api.Write{Page: 6})
	all := steps(t, "pending writes", d, 8, "nine", []api.Write{{Page: 6, Text: "x"}, {Page: 5, Text: "y"}, {Page: 7, Text: "z"}})
	if got, want := all[3].Writes[1].Text, record(9, 5, "five"); got != want {
		t.Errorf("the undo record of page 5 is %q, want %q", got, want)
	}
	crowded := with(written(3, "three"))
	for i := range 400 {
		crowded.Writes = append(crowded.Writes, api.Write{Page: 1 + i%100, Text: fmt.Sprint(i)})
	}
	steps(t, "400 pending writes", crowded, 3, "four", group(100, 7))
}

// TestP44LongestTexts: everything that a disk has and that is written has the greatest length.
func TestP44LongestTexts(t *testing.T) {
	d := blank(3, strings.Repeat("h", 2996))
	var l []api.Write
	for i := 1; i <= 100; i++ {
		d.Pages[i] = strings.Repeat("d", 2900)
		d.Pages[100+i] = strings.Repeat("u", 3500)
		l = append(l, api.Write{Page: 101 - i, Text: full})
	}
	steps(t, "longest texts", d, 3, full, l)
	d = set(d, 7, strings.Repeat("d", 2901)) // it is in the group no more
	steps(t, "other pages may be longer", d, 3, full, slices.DeleteFunc(l, func(w api.Write) bool { return w.Page == 7 }))
}

// refused fails the test unless Steps returns only this error.
func refused(t *testing.T, name string, d api.Disk, head string, l []api.Write, want api.Errno) {
	t.Helper()
	if all, err := undo.Steps(d, head, l); len(all) != 0 || err != want {
		t.Errorf("%s: Steps = %d disks, %d, want %d", name, len(all), err, want)
	}
}

// badGroups lists what may be wrong with a head and a group, from what is checked first to what is checked last.
func badGroups() []struct {
	name string
	head string
	l    []api.Write
	want api.Errno
} {
	first := api.Write{Page: 1, Text: "x"}
	none, long := api.Write{Page: 101}, api.Write{Page: 2, Text: over}
	return []struct {
		name string
		head string
		l    []api.Write
		want api.Errno
	}{
		{"head too long", over, nil, api.ErrLarge},
		{"head much too long", strings.Repeat("v", 1<<16), []api.Write{first}, api.ErrLarge},
		{"head before a page", over, []api.Write{none}, api.ErrLarge},
		{"head before a page that is there", over, []api.Write{first, first}, api.ErrLarge},
		{"101 pages", "", group(101, 1), api.ErrLarge},
		{"101 pages, none of them with data", "", make([]api.Write, 101), api.ErrLarge},
		{"many pages", "", make([]api.Write, 100000), api.ErrLarge},
		{"page 0", "", []api.Write{{}}, api.ErrArg},
		{"page -1", "", []api.Write{first, {Page: -1}}, api.ErrArg},
		{"page 101", "", []api.Write{none}, api.ErrArg},
		{"page 200", "", []api.Write{{Page: 200}}, api.ErrArg},
		{"page 201", "", []api.Write{{Page: 201}}, api.ErrArg},
		{"least page", "", []api.Write{{Page: math.MinInt}}, api.ErrArg},
		{"greatest page", "", []api.Write{first, {Page: math.MaxInt}}, api.ErrArg},
		{"page that wraps around", "", []api.Write{{Page: 1<<32 + 1}}, api.ErrArg},
		{"the last of 100 pages", "", append(group(99, 1), none), api.ErrArg},
		{"page before text", "", []api.Write{{Page: 101, Text: over}}, api.ErrArg},
		{"twice a page without data", "", []api.Write{{}, {}}, api.ErrArg},
		{"page, then text", "", []api.Write{none, long}, api.ErrArg},
		{"page, then twice the same", "", []api.Write{first, none, first}, api.ErrArg},
		{"text too long", "", []api.Write{long}, api.ErrLarge},
		{"text longer than a page", "", []api.Write{{Page: 2, Text: strings.Repeat("v", 3501)}}, api.ErrLarge},
		{"the last of 100 texts", "", append(group(99, 1), api.Write{Page: group(100, 1)[99].Page, Text: over}), api.ErrLarge},
		{"text, then page", "", []api.Write{first, long, none}, api.ErrLarge},
		{"text, then twice the same", "", []api.Write{first, long, first}, api.ErrLarge},
		{"text before twice the same", "", []api.Write{{Page: 2}, long}, api.ErrLarge},
		{"twice the same", "", []api.Write{first, first}, api.ErrThere},
		{"twice the same page", "", []api.Write{{Page: 100}, first, {Page: 2}, {Page: 100, Text: "y"}}, api.ErrThere},
		{"the last of 100", "", append(group(99, 1), group(1, 1)...), api.ErrThere},
		{"twice the same, then page", "", []api.Write{first, first, none}, api.ErrThere},
		{"twice the same, then text", "", []api.Write{first, first, long}, api.ErrThere},
	}
}

func TestP44StepsReturnsTheFirstError(t *testing.T) {
	long := blank(math.MaxInt32, "last")
	for i := 1; i <= 100; i++ {
		long.Pages[i] = strings.Repeat("d", 2901)
	}
	for _, x := range badGroups() {
		refused(t, x.name, written(3, "head"), x.head, x.l, x.want)
		refused(t, x.name+", before long pages and the last seq", long, x.head, x.l, x.want)
		for _, y := range invalid() {
			refused(t, y.name+" before "+x.name, y.d, x.head, x.l, y.want)
		}
	}
	for _, y := range invalid() {
		refused(t, y.name, y.d, "", nil, y.want)
		refused(t, y.name, y.d, "head", group(3, 1), y.want)
	}
}

// TestP44LongPages: a page that was written otherwise may be longer than an undo record has room for.
func TestP44LongPages(t *testing.T) {
	for _, n := range []int{2901, 2992, 2993, 3500} {
		text := strings.Repeat("d", n)
		d := set(written(3, "head"), 7, text)
		refused(t, "a long page", d, "", []api.Write{{Page: 7}}, api.ErrLarge)
		refused(t, "the last page is long", d, "", []api.Write{{Page: 1}, {Page: 100}, {Page: 7}}, api.ErrLarge)
		refused(t, "a long page before the last seq", set(blank(math.MaxInt32, ""), 7, text), "", []api.Write{{Page: 7}}, api.ErrLarge)
		pending := with(written(3, "head"), api.Write{Page: 7, Text: text})
		refused(t, "a long page is pending", pending, "", []api.Write{{Page: 7}}, api.ErrLarge)
		steps(t, "a short page is pending", with(d, api.Write{Page: 7, Text: full}), 3, "", []api.Write{{Page: 7}})
		steps(t, "another page is long", d, 3, "", []api.Write{{Page: 6}, {Page: 8}})
	}
}

func TestP44LastSeq(t *testing.T) {
	for _, n := range []int{0, 1, 100} {
		refused(t, "last seq", written(math.MaxInt32, "last"), "", group(n, 1), api.ErrFull)
		pending := with(written(3, "head"), api.Write{Text: framed(8, four(math.MaxInt32))})
		refused(t, "last seq is pending", pending, "", group(n, 1), api.ErrFull)
		all := steps(t, "last seq but one", written(math.MaxInt32-1, "head"), math.MaxInt32-1, "last", group(n, 1))
		if seq, s, err := undo.Seq(all[len(all)-1]); seq != math.MaxInt32 || s != "last" || err != api.OK {
			t.Errorf("Seq = %d, %q, %d, want the last one", seq, s, err)
		}
	}
}

// recovers fails the test unless Recover returns this disk, of which a further Recover changes nothing.
func recovers(t *testing.T, name string, d, want api.Disk) {
	t.Helper()
	got, err := undo.Recover(d)
	if !same(got, want) || err != api.OK {
		t.Fatalf("%s: Recover: %d, %s", name, err, differences(got, want))
	}
	if again, err := undo.Recover(got); !same(again, want) || err != api.OK {
		t.Fatalf("%s: a second Recover: %d, %s", name, err, differences(again, want))
	}
}

func TestP45NothingToRecover(t *testing.T) {
	for _, seq := range []int{0, 1, 255, math.MaxInt32} {
		recovers(t, "blank", blank(seq, "head"), blank(seq, "head"))
		recovers(t, "written", written(seq, ""), written(seq, ""))
		recovers(t, "bytes after the head", set(written(seq, ""), 0, blank(seq, "").Pages[0]+"rest"), set(written(seq, ""), 0, blank(seq, "").Pages[0]+"rest"))
	}
}

// TestP45Records: records are looked at on each of their pages, and only there.
func TestP45Records(t *testing.T) {
	d := written(6, "head")
	for i := 101; i <= 200; i++ {
		page := (i*7)%100 + 1
		for _, rest := range []string{"", "rest"} {
			for _, old := range []string{"", "old", full, strings.Repeat("v", 2992)} {
				recovers(t, "the next group", set(d, i, record(7, page, old)+rest), set(d, page, old))
			}
			for _, seq := range []int{8, 9, 255, 256, 1 << 24, math.MaxInt32, math.MaxInt32 + 1, 1<<32 - 1} {
				recovers(t, "a later group", set(d, i, record(seq, page, "old")+rest), d)
			}
			for _, seq := range []int{0, 1, 5, 6} {
				x := set(d, i, record(seq, page, "old")+rest)
				recovers(t, "an earlier group", x, x)
			}
			for _, none := range []int{0, 101, 102, i, 200, 201, 256 + page, 1<<16 + page, 1<<24 + page, math.MaxInt32, 1 << 31, 1<<32 - 1} {
				recovers(t, "no page with data", set(d, i, record(7, none, "old")+rest), d)
			}
		}
	}
	for i := 1; i <= 100; i++ {
		for _, seq := range []int{6, 7, 8} {
			x := set(d, i, record(seq, i%100+1, "old"))
			recovers(t, "a record among the data", x, x)
		}
	}
}

// TestP45LastSeq: after the last group there may be a record of a next one, whose number still fits into four bytes.
func TestP45LastSeq(t *testing.T) {
	d := written(math.MaxInt32, "head")
	recovers(t, "the next group", set(d, 150, record(1<<31, 9, "old")), set(d, 9, "old"))
	recovers(t, "a later group", set(d, 150, record(1<<31+1, 9, "old")), d)
	recovers(t, "the greatest number", set(d, 150, record(1<<32-1, 9, "old")), d)
	last := set(d, 150, record(math.MaxInt32, 9, "old"))
	recovers(t, "the last group", last, last)
	first := written(0, "head")
	recovers(t, "the first group", set(first, 101, record(1, 9, "old")), set(first, 9, "old"))
	recovers(t, "number -1", set(first, 101, record(1<<32-1, 9, "old")), first)
}

// TestP45NoRecords: other contents of these pages stay.
func TestP45NoRecords(t *testing.T) {
	good := record(7, 9, "old")
	for name, page := range map[string]string{
		"nothing":            "",
		"zeros":              strings.Repeat("\x00", 3500),
		"no frame":           strings.Repeat("\xff", 3500),
		"kind 1":             framed(1, four(7)+four(9)+"old"),
		"kind 8":             framed(8, four(7)+four(9)+"old"),
		"kind 10":            framed(10, four(7)+four(9)+"old"),
		"no number":          framed(9, ""),
		"one number":         framed(9, four(7)),
		"seven bytes":        framed(9, (four(7) + four(9))[:7]),
		"seven bytes, later": framed(9, "\xff\xff\xff\xff\x00\x00\x00"),
		"half a frame":       good[:len(good)-1],
		"wrong checksum":     good[:len(good)-1] + "?",
		"a byte before it":   "?" + good,
		"after a frame":      framed(1, "") + good,
		"changed":            good[:12] + "O" + good[13:],
	} {
		for _, i := range []int{101, 102, 150, 199, 200} {
			d := set(written(6, "head"), i, page)
			recovers(t, name, d, d)
			other := 301 - i
			if other != i {
				recovers(t, name+", and a record", set(d, other, good), set(d, 9, "old"))
			}
		}
	}
}

// TestP45ManyRecords: records are performed in order, so that of several ones of a page the last one counts.
func TestP45ManyRecords(t *testing.T) {
	d := written(6, "head")
	twice := set(set(set(d, 120, record(7, 9, "second")), 101, record(7, 9, "first")), 200, record(7, 9, "third"))
	recovers(t, "three records of a page", twice, set(d, 9, "third"))
	mixed := set(set(set(d, 110, record(7, 9, "next")), 111, record(6, 9, "earlier")), 112, record(8, 9, "later"))
	recovers(t, "records of three groups", mixed, set(set(d, 9, "next"), 111, mixed.Pages[111]))
	all, want := d, d
	for i := 1; i <= 100; i++ {
		all = set(all, 100+i, record(7, 101-i, fmt.Sprint("old ", i)))
		want = set(want, 101-i, fmt.Sprint("old ", i))
	}
	recovers(t, "records of all pages", all, want)
	nested := set(d, 101, record(7, 9, record(7, 10, "old")))
	recovers(t, "a record of a record", nested, set(d, 9, record(7, 10, "old")))
}

// TestP45PendingWrites: all pending writes are performed before records are looked at.
func TestP45PendingWrites(t *testing.T) {
	d := written(6, "head")
	old := record(7, 9, "old")
	recovers(t, "page", with(set(d, 101, old), api.Write{Page: 9, Text: "new"}), set(d, 9, "old"))
	recovers(t, "record", with(d, api.Write{Page: 9, Text: "new"}, api.Write{Page: 101, Text: old}), set(d, 9, "old"))
	recovers(t, "no record any more", with(set(d, 101, old), api.Write{Page: 101, Text: "x"}), set(d, 101, "x"))
	head := framed(8, four(7)+"new")
	recovers(t, "head", with(set(d, 101, old), api.Write{Page: 0, Text: head}), set(set(d, 0, head), 101, old))
	head = framed(8, four(5)+"before")
	recovers(t, "head of an earlier group", with(set(d, 101, old), api.Write{Page: 0, Text: head}), set(d, 0, head))
	recovers(t, "a head where there was none", with(set(d, 0, ""), api.Write{Page: 0, Text: head}, api.Write{Page: 3}), set(set(d, 0, head), 3, ""))
}

func TestP45RecoverReturnsTheErrorOfSeq(t *testing.T) {
	for _, x := range invalid() {
		if d, err := undo.Recover(x.d); !none(d) || err != x.want {
			t.Errorf("%s: Recover: %d pages, %d, want %d", x.name, len(d.Pages), err, x.want)
		}
	}
}

// losses returns lists of which writes a crash keeps: all lists if there are few writes, and otherwise some.
func losses(n int) [][]bool {
	var all [][]bool
	add := func(kept func(i int) bool) {
		l := make([]bool, n)
		for i := range l {
			l[i] = kept(i)
		}
		all = append(all, l)
	}
	if n <= 5 {
		for set := range 1 << n {
			add(func(i int) bool { return set>>i&1 == 1 })
		}
		return all
	}
	for _, f := range []func(i int) bool{
		func(i int) bool { return false },
		func(i int) bool { return true },
		func(i int) bool { return i%2 == 0 },
		func(i int) bool { return i < n/2 },
		func(i int) bool { return i >= n/2 },
		func(i int) bool { return i == n-1 },
		func(i int) bool { return i != n-1 },
		func(i int) bool { return i*i%7 < 3 },
	} {
		add(f)
	}
	return all
}

// contents returns the head and the pages with data.
func contents(d api.Disk) []string {
	return d.Pages[:101]
}

// atomic fails the test unless each disk, after whatever crash, is recovered to the contents of the first or of the last
// one, as the head says, and no undo record for either is left.
func atomic(t *testing.T, name string, all []api.Disk) {
	t.Helper()
	before, after := contents(all[0]), contents(all[len(all)-1])
	for i, d := range all {
		for _, kept := range losses(len(d.Writes)) {
			crashed, _ := disk.Crash(d, kept)
			got, err := undo.Recover(crashed)
			want := before
			if crashed.Pages[0] == after[0] {
				want = after
			}
			if err != api.OK || !slices.Equal(contents(got), want) {
				t.Fatalf("%s: disk %d of %d, %v kept: Recover: %d, %s", name, i, len(all), kept, err, differences(got, api.Disk{Pages: want}))
			}
			if i < len(all)-2 && crashed.Pages[0] != before[0] || i == len(all)-1 && crashed.Pages[0] != after[0] {
				t.Fatalf("%s: disk %d of %d: the head is written at another step", name, i, len(all))
			}
			if again, err := undo.Recover(got); err != api.OK || !same(again, got) {
				t.Fatalf("%s: disk %d of %d, %v kept: a second Recover: %d, %s", name, i, len(all), kept, err, differences(again, got))
			}
		}
	}
}

func TestP44P45GroupsAreAtomic(t *testing.T) {
	for n := range 6 {
		for _, first := range []int{1, 64, 100} {
			name := fmt.Sprintf("%d pages from %d on", n, first)
			atomic(t, name, steps(t, name, written(6, "old"), 6, "new", group(n, first)))
			atomic(t, name, steps(t, name, blank(6, "head"), 6, "head", group(n, first)))
		}
	}
	for _, n := range []int{6, 100} {
		atomic(t, fmt.Sprint(n, " pages"), steps(t, "", written(0, "old"), 0, "new", group(n, 3)))
	}
}

// TestP44P45OneGroupAfterAnother writes groups of different sizes on one disk, on which the records of earlier groups
// stay, and crashes at a different step of each one.
func TestP44P45OneGroupAfterAnother(t *testing.T) {
	d := written(40, "start")
	seq := 40
	for round := range 60 {
		l := group((round*5)%9, round+1)
		name := fmt.Sprintf("round %d, %d pages", round, len(l))
		all := steps(t, name, d, seq, fmt.Sprint("round ", round), l)
		if round%10 == 9 {
			atomic(t, name, all)
		}
		crashed := all[round*11%len(all)]
		set := losses(len(crashed.Writes))
		crashed, _ = disk.Crash(crashed, set[round*3%len(set)])
		recovered, err := undo.Recover(crashed)
		n, _, _ := undo.Seq(recovered)
		want := contents(all[0])
		if n == seq+1 {
			want = contents(all[len(all)-1])
		}
		if err != api.OK || !slices.Equal(contents(recovered), want) || n != seq && n != seq+1 {
			t.Fatalf("%s: Recover: %d, seq %d, %s", name, err, n, differences(recovered, api.Disk{Pages: want}))
		}
		d, seq = recovered, n
	}
	if seq < 45 || seq > 95 {
		t.Fatalf("%d groups of 60 were written, so the sample shows little", seq-40)
	}
}

// spare copies a slice into one with capacity to spare.
func spare[E any](l []E) []E {
	return append(make([]E, 0, len(l)+3), l...)
}

// roomy copies a disk into slices with capacity to spare.
func roomy(d api.Disk) api.Disk {
	return api.Disk{Pages: spare(d.Pages), Writes: spare(d.Writes)}
}

// whole is a disk with what lies in the spare capacity of its slices.
func whole(d api.Disk) api.Disk {
	return api.Disk{Pages: d.Pages[:cap(d.Pages)], Writes: d.Writes[:cap(d.Writes)]}
}

// spoil writes over all memory of a disk. What has been written over before is found again.
func spoil(t *testing.T, d api.Disk) {
	t.Helper()
	d = whole(d)
	if slices.Contains(d.Pages, "spoiled") || slices.ContainsFunc(d.Writes, func(w api.Write) bool { return w.Page == -7 }) {
		t.Fatal("disks share memory")
	}
	for i := range d.Pages {
		d.Pages[i] = "spoiled"
	}
	for i := range d.Writes {
		d.Writes[i] = api.Write{Page: -7}
	}
}

// mutable returns disks for which Steps and Recover have something to do, or nothing.
func mutable() []api.Disk {
	pending := with(written(6, "old"), api.Write{Page: 5, Text: "five"}, api.Write{Page: 101, Text: record(7, 4, "four")})
	return []api.Disk{blank(6, ""), written(6, "old"), pending, set(written(6, "old"), 130, record(7, 2, "two")), {Pages: []string{"a"}}}
}

func TestP2DisksAreNotModifiedNorShared(t *testing.T) {
	for _, d := range mutable() {
		for _, n := range []int{0, 1, 4, 100} {
			arg, l := roomy(d), spare(group(n, 1))
			for range 2 {
				all, _ := undo.Steps(arg, "new", l)
				for _, x := range all {
					spoil(t, x)
				}
				recovered, _ := undo.Recover(arg)
				spoil(t, recovered)
				undo.Seq(arg)
			}
			if !same(whole(arg), whole(roomy(d))) || !slices.Equal(l[:cap(l)], spare(group(n, 1))[:cap(l)]) {
				t.Fatal("an argument was modified, or a result shares memory with it")
			}
		}
	}
}
