package desk_test

import (
	"fmt"
	"strings"
	"testing"

	"annalist/api"
	"annalist/build"
	"annalist/desk"
	"annalist/fs"
	"annalist/stream"
)

// exchange is a line and the reply to it.
type exchange struct{ line, reply string }

// holds fails the test unless a script of these lines has these replies.
func holds(t *testing.T, all ...exchange) {
	t.Helper()
	script, want := "", ""
	for _, x := range all {
		script += x.line + "\n"
		want += x.reply + "\n"
	}
	got := desk.Run(script)
	if got == want {
		return
	}
	replies := strings.Split(got, "\n")
	for i, x := range all {
		if i < len(replies) && replies[i] != x.reply {
			t.Fatalf("line %d: %q: %q, want %q", i+1, x.line, replies[i], x.reply)
		}
	}
	t.Fatalf("%q, want %q", got, want)
}

// replies fails the test unless a script has these replies, each of which ends with a newline.
func replies(t *testing.T, script, want string) {
	t.Helper()
	if got := desk.Run(script); got != want {
		t.Errorf("Run(%q) = %q, want %q", script, got, want)
	}
}

// block is a string of 320 bytes, the most that a file can have, in which no two blocks are equal.
func block(c byte) string {
	var b strings.Builder
	for i := 0; b.Len() < 320; i++ {
		fmt.Fprintf(&b, "%c%015d", c, i)
	}
	return b.String()
}

func TestP86Changes(t *testing.T) {
	holds(t,
		exchange{"tid", "ok 1"},
		exchange{"mkdir /d", "ok 2"},
		exchange{"write /d/x one", "ok 3"},
		exchange{"write /d/x two", "ok 4"},
		exchange{"patch /d/x 3 !", "ok 5"},
		exchange{"mv /d/x /y", "ok 6"},
		exchange{"rm /d", "ok 7"},
		exchange{"tid", "ok 7"},
		exchange{"read /d/x 3", "one"},
		exchange{"read /d/x 4", "two"},
		exchange{"read /d/x 5", "two!"},
		exchange{"read /d/x 6", "error 4"},
		exchange{"read /y 5", "error 4"},
		exchange{"read /y 6", "two!"},
		exchange{"patch /y 0 T", "ok 8"},
		exchange{"read /y", "Two!"},
		exchange{"prune 4", "ok 8"},
		exchange{"read /d/x 4", "two"},
		exchange{"read /d/x 5", "_"},
		exchange{"read /d/x 3", "_"},
		exchange{"read /y", "Two!"},
		exchange{"prune", "ok 8"},
		exchange{"read /d/x 4", "error 4"},
		exchange{"read /y 8", "Two!"},
		exchange{"prune 0 8 3 0 7", "ok 8"},
		exchange{"write /y _", "ok 9"},
		exchange{"read /y", "_"},
		exchange{"patch /y 0 _", "ok 10"},
	)
}

// TestP86Queries: their times may be omitted, and then are the current one.
func TestP86Queries(t *testing.T) {
	holds(t,
		exchange{"mkdir /d", "ok 2"},
		exchange{"write /d/x one", "ok 3"},
		exchange{"mkdir /d/e", "ok 4"},
		exchange{"kind /", "d"},
		exchange{"kind / 0", "error 4"},
		exchange{"kind / 1", "d"},
		exchange{"kind /d/x", "f"},
		exchange{"kind /d/x 4", "f"},
		exchange{"kind /d/x 2", "error 4"},
		exchange{"kind /d/e", "d"},
		exchange{"list /", "ok d"},
		exchange{"list / 1", "ok"},
		exchange{"list /d", "ok e x"},
		exchange{"list /d 2", "ok"},
		exchange{"list /d 3", "ok x"},
		exchange{"list /d/e", "ok"},
		exchange{"count", "ok 8"},
		exchange{"count 4", "ok 8"},
		exchange{"count 3", "ok 6"},
		exchange{"count 2", "ok 3"},
		exchange{"count 1", "ok 1"},
		exchange{"count 0", "ok 0"},
		exchange{"count 5", "error 9"},
		exchange{"rm /d/x", "ok 5"},
		exchange{"kind /d/x", "error 4"},
		exchange{"kind /d/x 4", "f"},
		exchange{"kind /d/x 5", "error 4"},
		exchange{"list /d", "ok e"},
		exchange{"list /d 4", "ok e x"},
		exchange{"count", "ok 5"},
		exchange{"count 4", "ok 8"},
		exchange{"tid", "ok 5"},
	)
}

// TestP86Nodes: eight records require one leaf, nine require two and a root.
func TestP86Nodes(t *testing.T) {
	holds(t,
		exchange{"nodes", "ok 1"},
		exchange{"write /x 1", "ok 2"},
		exchange{"write /x 2", "ok 3"},
		exchange{"write /x 3", "ok 4"},
		exchange{"write /x 4", "ok 5"},
		exchange{"write /x 5", "ok 6"},
		exchange{"nodes", "ok 1"},
		exchange{"write /x 6", "ok 7"},
		exchange{"nodes", "ok 3"},
		exchange{"count", "ok 4"},
		exchange{"write /y " + block('y'), "ok 8"},
		exchange{"write /y " + block('Y'), "ok 9"},
		exchange{"nodes", "ok 8"},
		exchange{"write /z " + block('z'), "ok 10"},
		exchange{"nodes", "ok 13"},
		exchange{"prune", "ok 10"},
		exchange{"nodes", "ok 7"},
	)
}

// TestP86Stream: the frames at the ends take 17 and 9 bytes, one with a record 23 and those of its value.
func TestP86Stream(t *testing.T) {
	holds(t,
		exchange{"stream 0 0", "ok 26"},
		exchange{"stream 0 1", "ok 50"},
		exchange{"stream 1 1", "ok 26"},
		exchange{"write /x one", "ok 2"},
		exchange{"stream 1 2", "ok " + fmt.Sprint(26+3*23+len("2:x")+len("f")+len("one"))},
		exchange{"stream 2 2", "ok 26"},
		exchange{"stream 2 999999999", "ok 26"},
		exchange{"write /x other", "ok 3"},
		exchange{"stream 2 3", "ok " + fmt.Sprint(26+2*23+len("one")+len("other"))},
		exchange{"stream 1 2", "ok " + fmt.Sprint(26+3*23+len("2:x")+len("f")+len("one"))},
		exchange{"stream 3 2", "error 9"},
		exchange{"stream 1 0", "error 9"},
	)
}

// TestP86NodesAndStreamOfAllRecords compares with the functions that the table names, when there are many records.
func TestP86NodesAndStreamOfAllRecords(t *testing.T) {
	f := fs.New()
	var all []exchange
	for i := range 60 {
		path, text := fmt.Sprint("/x", i%9), block('a' + byte(i%7))[:17*(i%5)]
		if err := f.Write(path, text); err != api.OK {
			t.Fatalf("Write %d: %d", i, err)
		}
		if text == "" {
			text = "_"
		}
		tree, _ := build.Of(f.Run())
		s, _ := stream.Read(f.Run(), 0, i/2, i+1)
		all = append(all,
			exchange{"write " + path + " " + text, fmt.Sprint("ok ", i+2)},
			exchange{"nodes", fmt.Sprint("ok ", len(tree.Nodes))},
			exchange{fmt.Sprint("stream ", i/2, " ", i+1), fmt.Sprint("ok ", len(s))},
		)
	}
	holds(t, all...)
}

// TestP86Errors: the reply has the number of the error that the function returns, and nothing changes.
func TestP86Errors(t *testing.T) {
	start := []exchange{{"mkdir /d", "ok 2"}, {"write /d/x text", "ok 3"}, {"write /y _", "ok 4"}}
	for want, lines := range map[api.Errno][]string{
		api.ErrArg:   {"patch /d/x 5 a", "patch /d/x 999999999 a", "patch /y 1 a", "rm /", "mv / /a", "mv /d /d", "mv /d /d/e", "mv /d /d/x/e"},
		api.ErrLarge: {"write /y " + block('y') + "z", "patch /d/x 4 " + block('x'), "mkdir /a/b/c/d/e/f/g", "read /a/b/c/d/e/f/g", "prune" + strings.Repeat(" 1", 21)},
		api.ErrForm: {
			"mkdir d", "mkdir _", "mkdir /d/", "mkdir //d", "mkdir /.", "mkdir /..", "mkdir /a@b", "mkdir /a\\sb", "mkdir /\\x00", "mkdir /thirteenbytes",
			"write d text", "patch d 0 text", "rm d", "mv d /e", "mv /d e", "kind d", "kind d 99", "read _", "list d",
		},
		api.ErrNone:  {"mkdir /e/f", "write /e/f _", "patch /e 0 a", "patch /e 9 a", "rm /e", "mv /e /f", "mv /y /e/f", "kind /e", "kind /d 1", "read /e", "list /e", "list / 0"},
		api.ErrThere: {"mkdir /d", "mkdir /", "mkdir /y", "rm /d", "mv /y /d", "mv /y /"},
		api.ErrTid:   {"kind / 5", "kind /e 5", "read /y 5", "list / 5", "list /y 999999999", "count 5", "count 999999999", "stream 2 1", "stream 999999999 4"},
		api.ErrKind:  {"mkdir /y/a", "write / a", "write /d a", "write /y/a a", "patch / 0 a", "patch /d 9 a", "rm /y/a", "mv /y /d/x/a", "read /", "read /d", "read / 1", "list /y", "list /d/x 3"},
	} {
		for _, line := range lines {
			holds(t, append(start,
				exchange{"count", "ok 8"},
				exchange{line, fmt.Sprint("error ", int(want))},
				exchange{"tid", "ok 4"},
				exchange{"count", "ok 8"},
				exchange{"list /", "ok d y"},
				exchange{"list /d", "ok x"},
				exchange{"read /d/x", "text"},
				exchange{"mkdir /n", "ok 5"},
			)...)
		}
	}
}

// TestP86Full: 400 records are the most. After pruning there is room.
func TestP86Full(t *testing.T) {
	all := []exchange{{"mkdir /d", "ok 2"}}
	for i := range 19 {
		all = append(all, exchange{"write /x " + block('a'+byte(i)), fmt.Sprint("ok ", 3+i)})
	}
	last := block('a' + 18)
	all = append(all,
		exchange{"write /x " + block('A'), "error 8"},
		exchange{"read /x", last},
		exchange{"tid", "ok 21"},
		exchange{"nodes", "ok 57"},
		exchange{"patch /x 16 " + block('A')[16:256], "ok 22"},
		exchange{"nodes", "ok 58"},
		exchange{"patch /x 16 " + last[16:256], "error 8"},
		exchange{"mkdir /e", "error 8"},
		exchange{"write /new _", "error 8"},
		exchange{"tid", "ok 22"},
		exchange{"prune 4", "ok 22"},
		exchange{"write /x " + block('B'), "ok 23"},
		exchange{"read /x 4", block('b')},
		exchange{"read /x", block('B')},
	)
	holds(t, all...)
}

// wrong are lines that cannot be read.
var wrong = []string{
	// Not a command.
	"none", "Tid", "TID", "tid\t", "\ttid", "tid\r", "tid\x00", "\x00", "\xff", "ok", "error", "_", "\\", "mkdi", "mkdirs", "/d", "##", "#x", "run", "Run", "1", "\\x74id", "ti\\x64",
	"tid\u00a0", "count1", "nodes;", "Mkdir /e", "Count", "Kind /", "ls /", "cat /y", "remove /y", "move /y /e", "at /y",
	// Too few words, or too many.
	"mkdir", "mkdir /e /f", "mkdir /e 4", "write", "write /y", "write /y a b", "write /y a 4", "patch", "patch /y", "patch /y 0", "patch /y 0 a b",
	"rm", "rm /y /d", "rm /y 4", "mv", "mv /y", "mv /y /e /f", "tid 4", "tid _", "kind", "kind / 4 4", "read", "read /y 4 4", "list", "list / 4 4",
	"count 4 4", "nodes 4", "nodes /", "stream", "stream 0", "stream 0 4 4", "mkdir /e #", "tid # x",
	// Not a number.
	"kind / x", "kind / -1", "kind / +1", "kind / 04", "kind / 00", "kind / 4.", "kind / 0x4", "kind / 1000000000", "kind / 0000000004", "kind / _", "kind / /", "kind / 4\t",
	"kind / \\x34", "kind / 1_0", "kind / 1e0", "kind / \u0664", "kind / 99999999999999999999999", "kind / -0",
	"read /y x", "read /y 01", "list / x", "list / 1000000000", "count x", "count _", "count 01", "count -1", "count 1000000000", "count tid",
	"patch /y x a", "patch /y _ a", "patch /y -1 a", "patch /y 00 a", "patch /y a 0", "patch /y 1000000000 a",
	"stream x 4", "stream 0 x", "stream 00 4", "stream 0 04", "stream -1 4", "stream 0 2147483647", "stream 1000000000 1000000000",
	"prune x", "prune 1 x", "prune x 1", "prune 1 2 03", "prune -1", "prune _", "prune 1000000000", "prune 1, 2", "prune" + strings.Repeat(" 1", 20) + " x",
	// Not a quoted string.
	"mkdir a_b", "mkdir /a_b", "mkdir __", "mkdir /_", "mkdir _/", "mkdir /e\t", "mkdir /\x00", "mkdir /\x7f", "mkdir /\x80", "mkdir /\u00e9", "mkdir /\xff",
	"mkdir \\", "mkdir /\\", "mkdir /e\\", "mkdir /\\a", "mkdir /\\S", "mkdir /\\n", "mkdir /\\0", "mkdir /\\/", "mkdir /\\\\\\",
	"mkdir /\\x", "mkdir /\\x6", "mkdir /\\x6_", "mkdir /\\x6g", "mkdir /\\xg6", "mkdir /\\x6A", "mkdir /\\xA6", "mkdir /\\X65", "mkdir /\\x 65", "mkdir /\\x\\x65", "mkdir /\\x-1",
	"write /a_b a", "write /y a_b", "write /y __", "write /y \\", "write /y \\x4", "write /y a\tb", "write /y \xff", "write _a a", "write /y _\\", "write /y \\_\\",
	"patch /a_b 0 a", "patch /y 0 a_b", "patch /y 0 \\", "rm /a_b", "rm /y\\", "mv /a_b /e", "mv /y /a_b", "mv /y /e\\", "mv \\ /e",
	"kind /a_b", "kind /a_b 4", "kind /\\", "read /a_b", "read /\\ 3", "list /a_b", "list /\\",
	// Several of these.
	"none a_b x", "read a_b x", "write /y_ a_", "patch /\\ x \\", "kind a_b 4 4", "stream x x", "mkdir a_b /",
}

// TestP86ErrWord: nothing changes.
func TestP86ErrWord(t *testing.T) {
	for _, line := range wrong {
		holds(t,
			exchange{"mkdir /d", "ok 2"},
			exchange{"write /d/x text", "ok 3"},
			exchange{"write /y _", "ok 4"},
			exchange{line, "error 13"},
			exchange{"tid", "ok 4"},
			exchange{"count", "ok 8"},
			exchange{"read /y", "_"},
			exchange{"list /", "ok d y"},
			exchange{"read /d/x 3", "text"},
		)
	}
}

// TestP86ErrWordFirst: what a function would return is not looked at.
func TestP86ErrWordFirst(t *testing.T) {
	for _, line := range []string{
		"mkdir d d", "write d a_b", "patch none 0 a_b", "patch none 00 a", "rm / /", "mv d a_b", "mv / / /", "prune 1 x" + strings.Repeat(" 1", 21),
		"kind none 04", "read / x", "list /none 1 1", "count 99 99", "stream 4 03",
	} {
		replies(t, line, "error 13\n")
	}
}

// TestP86NumberOfWords gives each command each number of words, all of which are both numbers and quoted strings.
func TestP86NumberOfWords(t *testing.T) {
	for name, want := range map[string]string{
		"mkdir": "-+----", "write": "--+---", "patch": "---+--", "rm": "-+----", "mv": "--+---", "prune": "++++++", "tid": "+-----",
		"kind": "-++---", "read": "-++---", "list": "-++---", "count": "++----", "nodes": "+-----", "stream": "--+---", "none": "------",
	} {
		for n := range want {
			got := desk.Run(name + strings.Repeat(" 1", n))
			if (got != "error 13\n") != (want[n] == '+') {
				t.Errorf("%s with %d words: %q", name, n, got)
			}
		}
	}
}

// TestP86Numbers: those of one to nine digits.
func TestP86Numbers(t *testing.T) {
	for n, want := range map[string]string{
		"0": "error 4", "1": "ok", "2": "ok d", "3": "error 9", "9": "error 9", "10": "error 9", "99999999": "error 9", "100000000": "error 9", "999999999": "error 9",
		"1000000000": "error 13", "01": "error 13", "001": "error 13", "00": "error 13", "000000001": "error 13", "": "ok d",
	} {
		holds(t, exchange{"mkdir /d", "ok 2"}, exchange{"list / " + n, want})
	}
	replies(t, "prune 0 999999999 10 0 1\nprune"+strings.Repeat(" 999999999", 20), "ok 1\nok 1\n")
}

// TestP86NoReply: a line without words, and one whose first word is #.
func TestP86NoReply(t *testing.T) {
	for _, lines := range []string{"", "\n", "\n\n\n", " ", "   ", " \n", "\n ", "#", "#\n", " #", "# ", "# x", "# # #", "  #  x  \n", "# mkdir /d", "# \xff\x00\\ a_b"} {
		replies(t, lines, "")
		replies(t, "mkdir /d\n"+lines+"\ntid", "ok 2\nok 2\n")
	}
	for _, line := range []string{"\n", " \n", "#\n", "# tid\n"} {
		replies(t, strings.Repeat(line, 200), "")
		replies(t, strings.Repeat(line, 199)+"tid", "ok 1\n")
	}
}

// TestP86Words: they are separated by any number of spaces, and by nothing else.
func TestP86Words(t *testing.T) {
	for _, line := range []string{"write /x a", " write /x a", "   write   /x   a   ", "write /x a ", "write  /x a"} {
		holds(t, exchange{line, "ok 2"}, exchange{"read /x", "a"})
	}
	for _, c := range []string{"\t", "\r", "\v", "\f", "\x00", "\u0085", "\u00a0", "\u2003", "\x85", "\xa0"} {
		replies(t, "write"+c+"/x a", "error 13\n")
		replies(t, "write /x"+c+"a", "error 13\n")
		replies(t, "write /x a"+c, "error 13\n")
		replies(t, c+"write /x a", "error 13\n")
		replies(t, "tid\n"+c+"\ntid", "ok 1\nerror 13\nok 1\n")
	}
}

// TestP86Lines: the last one counts if it is not empty.
func TestP86Lines(t *testing.T) {
	replies(t, "tid", "ok 1\n")
	replies(t, "tid\n", "ok 1\n")
	replies(t, "tid\n\n", "ok 1\n")
	replies(t, "\ntid", "ok 1\n")
	replies(t, "tid\nmkdir /d\n\n\ntid", "ok 1\nok 2\nok 2\n")
	replies(t, "tid\nmkdir /d\n\n\ntid\n \n", "ok 1\nok 2\nok 2\n")
	replies(t, "none\ntid", "error 13\nok 1\n")
	replies(t, "tid\r\ntid\r\n", "error 13\nerror 13\n")
	replies(t, "mkdir /d\rtid\n", "error 13\n")
}

// TestP86Limits: of lines and bytes.
func TestP86Limits(t *testing.T) {
	const tooMuch = "error 2\n"
	many := func(line string, n int) string { return strings.Repeat(line, n) }
	replies(t, many("tid\n", 199)+"tid", many("ok 1\n", 200))
	replies(t, many("tid\n", 200), many("ok 1\n", 200))
	replies(t, many("tid\n", 200)+"tid", tooMuch)
	replies(t, many("tid\n", 200)+" ", tooMuch)
	replies(t, many("tid\n", 200)+"\n", tooMuch)
	replies(t, many("tid\n", 201), tooMuch)
	replies(t, many("\n", 200), "")
	replies(t, many("\n", 199)+"tid", "ok 1\n")
	replies(t, many("\n", 200)+"tid", tooMuch)
	replies(t, many("\n", 201), tooMuch)
	replies(t, many("#\n", 201), tooMuch)
	replies(t, many(" \n", 1000), tooMuch)

	replies(t, "tid"+many(" ", 65533), "ok 1\n")
	replies(t, "tid"+many(" ", 65532)+"\n", "ok 1\n")
	replies(t, "tid"+many(" ", 65534), tooMuch)
	replies(t, "tid"+many(" ", 65533)+"\n", tooMuch)
	replies(t, many(" ", 65536), "")
	replies(t, many(" ", 65537), tooMuch)
	replies(t, many("\n", 65537), tooMuch)
	replies(t, many("\n", 65536), tooMuch)
	replies(t, many("x", 65536), "error 13\n")
	replies(t, many("x", 65537), tooMuch)
	replies(t, many("x", 1<<20), tooMuch)
	replies(t, "tid\n# "+many("x", 65530), "ok 1\n")
	replies(t, "tid\n# "+many("x", 65531), tooMuch)
	replies(t, "prune"+many(" 1", 32765), tooMuch)
	replies(t, "prune"+many(" 1", 32765)+"x", "error 13\n")
	replies(t, "prune"+many(" x", 32765), "error 13\n")
	replies(t, "write /x "+many("a", 65527), tooMuch)
	replies(t, "mkdir "+many("/a", 32765), tooMuch)
	replies(t, "mkdir "+many("/", 65530), "error 3\n")
}

// TestP86State: a script begins with a new file system.
func TestP86State(t *testing.T) {
	for range 3 {
		replies(t, "mkdir /d\ncount", "ok 2\nok 3\n")
		replies(t, "tid\nlist /", "ok 1\nok\n")
	}
}
