package dump_test

import (
	"cmp"
	"fmt"
	"math"
	"math/rand/v2"
	"regexp"
	"slices"
	"strings"
	"testing"

	"annalist/api"
	"annalist/dump"
	"annalist/run"
)

// rec is a record of realm 0 and object 7.
func rec(off, made, gone int, val string) api.Elem {
	return api.Elem{Key: api.Key{Obj: 7, Off: off}, Made: made, Gone: gone, Val: val}
}

// many are n records.
func many(n int) []api.Elem {
	var l []api.Elem
	for i := range n {
		l = append(l, rec(i, 1+i, 0, fmt.Sprint("v", i)))
	}
	return l
}

// all is a string of every byte, once.
func all() string {
	var b []byte
	for c := range 256 {
		b = append(b, byte(c))
	}
	return string(b)
}

// valued are records with these values.
func valued(values ...string) []api.Elem {
	var l []api.Elem
	for i, val := range values {
		l = append(l, rec(i, 1, 0, val))
	}
	return l
}

// sample is a run with records of several keys and several versions of a key.
func sample() []api.Elem {
	return []api.Elem{
		{Key: api.Key{}, Made: 1},
		rec(0, 1, 3, "a b"), rec(0, 3, 4, ""), rec(0, 10, 0, "%_"), rec(1, 2, 20, "100%"), rec(10, 2, 0, "\x00\xff"),
		{Key: api.Key{Pfs: 15, Obj: 1 << 20, Off: 1 << 30}, Made: math.MaxInt32 - 1, Gone: math.MaxInt32, Val: strings.Repeat("\n", 40)},
	}
}

// sampleText is the text form of the sample.
var sampleText = `0 0 0 1 0 _
0 7 0 1 3 a%20b
0 7 0 3 4 _
0 7 0 10 0 %25%5f
0 7 1 2 20 100%25
0 7 10 2 0 %00%ff
15 1048576 1073741824 2147483646 2147483647 ` + strings.Repeat("%0a", 40) + "\n"

// bad are lists that are no runs.
func bad() map[string][]api.Elem {
	return map[string][]api.Elem{
		"too many":           many(401),
		"too many, not runs": make([]api.Elem, 500),
		"realm":              {{Key: api.Key{Pfs: 16}, Made: 1}},
		"negative realm":     {{Key: api.Key{Pfs: -1}, Made: 1}},
		"object":             {{Key: api.Key{Obj: 1<<20 + 1}, Made: 1}},
		"negative object":    {{Key: api.Key{Obj: -1}, Made: 1}},
		"offset":             {rec(1<<30+1, 1, 0, "")},
		"negative offset":    {rec(-1, 1, 0, "")},
		"created at 0":       {rec(0, 0, 0, "")},
		"created before 0":   {rec(0, -1, 0, "")},
		"created too late":   {rec(0, 1<<31, 0, "")},
		"deleted before 0":   {rec(0, 1, -1, "")},
		"deleted at once":    {rec(0, 5, 5, "")},
		"deleted before":     {rec(0, 5, 4, "")},
		"deleted too late":   {rec(0, 5, 1<<31, "")},
		"extreme numbers":    {{Key: api.Key{Pfs: math.MinInt, Obj: math.MaxInt, Off: math.MinInt}, Made: math.MaxInt, Gone: math.MinInt}},
		"value":              {rec(0, 1, 0, strings.Repeat("x", 41))},
		"order":              {rec(1, 1, 0, ""), rec(0, 2, 0, "")},
		"order of times":     {rec(1, 2, 0, ""), rec(1, 1, 2, "")},
		"twice":              {rec(1, 1, 0, ""), rec(1, 1, 0, "")},
		"not deleted":        {rec(1, 1, 0, ""), rec(1, 2, 0, "")},
		"deleted after":      {rec(1, 1, 3, ""), rec(1, 2, 0, "")},
		"the last one":       append(many(300), rec(400, 0, 0, "")),
	}
}

func TestP84Print(t *testing.T) {
	for _, x := range []struct {
		l    []api.Elem
		want string
	}{
		{nil, ""},
		{[]api.Elem{}, ""},
		{valued("a b"), "0 7 0 1 0 a%20b\n"},
		{valued(""), "0 7 0 1 0 _\n"},
		{valued("_"), "0 7 0 1 0 %5f\n"},
		{valued("", "_", "__", "a_"), "0 7 0 1 0 _\n0 7 1 1 0 %5f\n0 7 2 1 0 %5f%5f\n0 7 3 1 0 a%5f\n"},
		{valued("%", "%%", "%20", "%5f", "a%"), "0 7 0 1 0 %25\n0 7 1 1 0 %25%25\n0 7 2 1 0 %2520\n0 7 3 1 0 %255f\n0 7 4 1 0 a%25\n"},
		{valued(" ", "\n", "\t", "\x7f", "\u00e9"), "0 7 0 1 0 %20\n0 7 1 1 0 %0a\n0 7 2 1 0 %09\n0 7 3 1 0 %7f\n0 7 4 1 0 %c3%a9\n"},
		{sample(), sampleText},
	} {
		got, err := dump.Print(x.l)
		if got != x.want || err != api.OK {
			t.Errorf("Print(%v) = %q, %d, want %q", x.l, got, err, x.want)
		}
	}
}

// TestP84Bytes looks at each byte alone and between others.
func TestP84Bytes(t *testing.T) {
	const plain = "!\"#$&'()*+,-./0123456789:;<=>?@ABCDEFGHIJKLMNOPQRSTUVWXYZ[\\]^`abcdefghijklmnopqrstuvwxyz{|}~"
	for _, c := range []byte(all()) {
		word := fmt.Sprintf("%%%02x", c)
		if strings.IndexByte(plain, c) >= 0 {
			word = string([]byte{c})
		}
		b := string([]byte{c})
		want := fmt.Sprintf("0 7 0 1 0 %s\n0 7 1 1 0 a%sz\n0 7 2 1 0 %s\n", word, word, strings.Repeat(word, 40))
		got, err := dump.Print(valued(b, "a"+b+"z", strings.Repeat(b, 40)))
		if got != want || err != api.OK {
			t.Errorf("byte %d: %q, %d, want %q", c, got, err, want)
		}
	}
}

// TestP84Full prints as many records as a run can have.
func TestP84Full(t *testing.T) {
	got, err := dump.Print(many(400))
	lines := strings.SplitAfter(got, "\n")
	if err != api.OK || len(lines) != 401 || lines[400] != "" {
		t.Fatalf("%d lines, %d", len(lines), err)
	}
	for i, line := range lines[:400] {
		if want := fmt.Sprintf("0 7 %d %d 0 v%d\n", i, 1+i, i); line != want {
			t.Errorf("line %d: %q, want %q", i, line, want)
		}
	}
}

// TestP84ReturnsTheErrorOfCheck: without any text.
func TestP84ReturnsTheErrorOfCheck(t *testing.T) {
	for name, l := range bad() {
		want := run.Check(l)
		if want == api.OK {
			t.Fatalf("%s: this is a run", name)
		}
		if got, err := dump.Print(l); got != "" || err != want {
			t.Errorf("%s: %q, %d, want %d", name, got, err, want)
		}
	}
}

func TestP84LeavesItsArgument(t *testing.T) {
	l := append(sample(), many(3)...)
	c := slices.Clone(l)
	dump.Print(l[:len(l)-3])
	if !slices.Equal(l, c) {
		t.Errorf("%v, was %v", l, c)
	}
}

// reads fails the test unless Read returns these records and this error.
func reads(t *testing.T, s string, want []api.Elem, wantErr api.Errno) {
	t.Helper()
	if got, err := dump.Read(s); !slices.Equal(got, want) || err != wantErr {
		t.Errorf("Read(%q) = %v, %d, want %v, %d", s, got, err, want, wantErr)
	}
}

func TestP85Read(t *testing.T) {
	reads(t, "", nil, api.OK)
	reads(t, "0 7 0 1 0 a%20b\n", valued("a b"), api.OK)
	reads(t, "0 7 0 1 0 _\n0 7 1 1 0 %5f\n0 7 2 1 0 %5f%5f\n", valued("", "_", "__"), api.OK)
	reads(t, sampleText, sample(), api.OK)
}

// TestP85ReadsWhatPrintWrites: runs of any length, with any byte in any place.
func TestP85ReadsWhatPrintWrites(t *testing.T) {
	for _, n := range []int{0, 1, 2, 399, 400} {
		s, err := dump.Print(many(n))
		if err != api.OK {
			t.Fatalf("Print of %d records: %d", n, err)
		}
		reads(t, s, many(n), api.OK)
	}
	r := rand.New(rand.NewPCG(1, 1))
	for range 300 {
		l := someRun(r)
		s, err := dump.Print(l)
		if err != api.OK {
			t.Fatalf("Print(%v): %d", l, err)
		}
		reads(t, s, l, api.OK)
	}
}

// someRun is a random run of up to 12 keys and values of any bytes.
func someRun(r *rand.Rand) []api.Elem {
	var l []api.Elem
	for i := range r.IntN(30) {
		k := api.Key{Pfs: r.IntN(2) * r.IntN(16), Obj: r.IntN(2), Off: r.IntN(3)}
		val := make([]byte, r.IntN(41))
		for j := range val {
			val[j] = byte(r.IntN(256))
		}
		next, err := run.Put(l, k, string(val), 1+i)
		if r.IntN(4) == 0 {
			next, err = run.Cut(l, k, 1+i)
		}
		if err == api.OK {
			l = next
		}
	}
	return l
}

// TestP85Others: texts that look like those of runs, but are written in another way.
func TestP85Others(t *testing.T) {
	for _, s := range []string{
		"\n", "\n\n", " ", "x", "_", "_\n", "0 7 0 1 0\n", "0 7 0 1\n", "0 7 0 1 0 _ _\n", "0 7 0 1 0 _ \n", " 0 7 0 1 0 _\n",
		"0 7 0 1 0 _", "0 7 0 1 0 _\n\n", "\n0 7 0 1 0 _\n", "0 7 0 1 0 _\r\n", "0 7 0 1 0 _\n0 7 1 1 0 _", "0 7 0 1 0 _\n\n0 7 1 1 0 _\n",
		"0 7 0 1 0 _\n\x00", "0  7 0 1 0 _\n", "0 7 0 1 0  _\n", "0\t7 0 1 0 _\n", "0 7 0 1 0 \n", "0 7 0 1 0 a b\n", "0,7,0,1,0,_\n",
		"00 7 0 1 0 _\n", "0 07 0 1 0 _\n", "0 7 00 1 0 _\n", "0 7 0 01 0 _\n", "0 7 0 1 00 _\n", "+0 7 0 1 0 _\n", "0 +7 0 1 0 _\n",
		"0 7 -0 1 0 _\n", "0 7 0 +1 0 _\n", "0 7 0 1 -0 _\n", "0x0 7 0 1 0 _\n", "0 7. 0 1 0 _\n", "0 7 0 1e0 0 _\n", "0 7 0 1_0 0 _\n", "0 7 a 1 0 _\n",
		" 7 0 1 0 _\n", "0  0 1 0 _\n", "0 7 0 1  _\n",
		"0 7 0 1 0 __\n", "0 7 0 1 0 a_\n", "0 7 0 1 0 _a\n", "0 7 0 1 0 %\n", "0 7 0 1 0 %2\n", "0 7 0 1 0 a%\n", "0 7 0 1 0 a%2\n", "0 7 0 1 0 %%25\n",
		"0 7 0 1 0 %5F\n", "0 7 0 1 0 %0A\n", "0 7 0 1 0 %fF\n", "0 7 0 1 0 %g0\n", "0 7 0 1 0 %0g\n", "0 7 0 1 0 %41\n", "0 7 0 1 0 %7e\n", "0 7 0 1 0 %21\n",
		"0 7 0 1 0 %20%\n", "0 7 0 1 0 %20%4\n", "0 7 0 1 0 %20%41\n", "0 7 0 1 0 %-1\n", "0 7 0 1 0 % 1\n", "0 7 0 1 0 %x1\n",
		"0 7 0 1 0 \x00\n", "0 7 0 1 0 \t\n", "0 7 0 1 0 \x7f\n", "0 7 0 1 0 \x80\n", "0 7 0 1 0 \u00e9\n", "0 7 0 1 0 \xff\n",
		strings.Repeat("x", 1<<16), strings.Repeat("\n", 1<<16), strings.Repeat("0 7 0 1 0 _\n", 1<<12),
	} {
		reads(t, s, nil, api.ErrForm)
	}
}

// loose prints records as Print does, be they a run or not.
func loose(l []api.Elem) string {
	var s strings.Builder
	for _, e := range l {
		fmt.Fprintf(&s, "%d %d %d %d %d %s\n", e.Key.Pfs, e.Key.Obj, e.Key.Off, e.Made, e.Gone, cmp.Or(e.Val, "_"))
	}
	return s.String()
}

// TestP85NoRun: what is wrong with the records does not matter.
func TestP85NoRun(t *testing.T) {
	for name, l := range bad() {
		if _, err := dump.Read(loose(l)); err != api.ErrForm {
			t.Errorf("%s: %d, want ErrForm", name, err)
		}
	}
	reads(t, loose(many(400)), many(400), api.OK)
	for _, s := range []string{"9223372036854775807", "9223372036854775808", "18446744073709551616", "-9223372036854775809", strings.Repeat("9", 1000)} {
		for i := range 5 {
			words := strings.Split("0 7 0 1 0 _\n", " ")
			words[i] = s
			reads(t, strings.Join(words, " "), nil, api.ErrForm)
		}
	}
}

// A line of the text form, but for the bounds of the numbers and for the digits of bytes that are written as themselves.
var (
	form = regexp.MustCompile(`^(0|[1-9][0-9]*) (0|[1-9][0-9]*) (0|[1-9][0-9]*) (0|[1-9][0-9]*) (0|[1-9][0-9]*) (_|(?:[!-$&-^` + "`" + `-~]|%[0-9a-f][0-9a-f])+)$`)
	wide = regexp.MustCompile(`%(2[1-46-9a-f]|[346][0-9a-f]|5[0-9a-e]|7[0-9a-e])`)
)

// reference reads a text line by line.
func reference(s string) ([]api.Elem, api.Errno) {
	if s == "" {
		return nil, api.OK
	}
	if !strings.HasSuffix(s, "\n") {
		return nil, api.ErrForm
	}
	var l []api.Elem
	for _, line := range strings.Split(s[:len(s)-1], "\n") {
		m := form.FindStringSubmatch(line)
		if m == nil || wide.MatchString(m[6]) {
			return nil, api.ErrForm
		}
		var e api.Elem
		if _, err := fmt.Sscan(strings.Join(m[1:6], " "), &e.Key.Pfs, &e.Key.Obj, &e.Key.Off, &e.Made, &e.Gone); err != nil {
			return nil, api.ErrForm
		}
		if m[6] != "_" {
			e.Val = regexp.MustCompile(`%..`).ReplaceAllStringFunc(m[6], func(s string) string {
				c := 0
				fmt.Sscanf(s, "%%%02x", &c)
				return string([]byte{byte(c)})
			})
		}
		l = append(l, e)
	}
	if run.Check(l) != api.OK {
		return nil, api.ErrForm
	}
	return l, api.OK
}

// TestP85SmallChanges gives every byte of a text every value, removes each one, and puts every byte before each one.
// There are texts of other runs among the results.
func TestP85SmallChanges(t *testing.T) {
	met := map[api.Errno]int{}
	try := func(s string) {
		want, err := reference(s)
		met[err]++
		reads(t, s, want, err)
	}
	const text = "0 7 0 1 3 a%20b\n0 7 0 3 0 _\n1 23 0 5 60 %5f%ff\n"
	try(text)
	for i := range len(text) {
		try(text[:i] + text[i+1:])
		try(text[:i])
		try(text[i:])
		for c := range 256 {
			b := string([]byte{byte(c)})
			try(text[:i] + b + text[i+1:])
			try(text[:i] + b + text[i:])
		}
	}
	if met[api.OK] < 500 || met[api.ErrForm] < 500 {
		t.Errorf("met: %v", met)
	}
}

// TestP85Escapes reads every percent sign with every two bytes after it.
func TestP85Escapes(t *testing.T) {
	for a := range 256 {
		for b := range 256 {
			s := string([]byte{byte(a), byte(b)})
			text := "0 7 0 1 0 x%" + s + "y\n"
			want, err := reference(text)
			reads(t, text, want, err)
		}
	}
}

// TestP85Values: 40 bytes are the most, however they are written.
func TestP85Values(t *testing.T) {
	for _, word := range []string{"x", "%00", "%ff", "%25", "%20"} {
		val := map[string]string{"x": "x", "%00": "\x00", "%ff": "\xff", "%25": "%", "%20": " "}[word]
		reads(t, "0 7 0 1 0 "+strings.Repeat(word, 40)+"\n", valued(strings.Repeat(val, 40)), api.OK)
		reads(t, "0 7 0 1 0 "+strings.Repeat(word, 41)+"\n", nil, api.ErrForm)
	}
}

// TestP85NewMemory: two results are independent.
func TestP85NewMemory(t *testing.T) {
	a, _ := dump.Read(sampleText)
	b, _ := dump.Read(sampleText)
	clear(a[:cap(a)])
	if !slices.Equal(b, sample()) {
		t.Errorf("%v, want %v", b, sample())
	}
}
