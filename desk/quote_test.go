package desk_test

import (
	"fmt"
	"strings"
	"testing"

	"annalist/desk"
)

// quoted returns a string as a quoted string.
func quoted(s string) string {
	if s == "" {
		return "_"
	}
	var word strings.Builder
	for _, c := range []byte(s) {
		switch {
		case c == ' ':
			word.WriteString("\\s")
		case c == '\\':
			word.WriteString("\\\\")
		case c == '_':
			word.WriteString("\\_")
		case c >= 33 && c <= 126:
			word.WriteByte(c)
		default:
			fmt.Fprintf(&word, "\\x%02x", c)
		}
	}
	return word.String()
}

// stores fails the test unless a quoted string is that of s: in a file, where it stands for all of the contents or for a part.
func stores(t *testing.T, word, s string) {
	t.Helper()
	holds(t,
		exchange{"write /x " + word, "ok 2"},
		exchange{"read /x", quoted(s)},
		exchange{fmt.Sprint("patch /x ", len(s), " ", word), "ok 3"},
		exchange{"read /x", quoted(s + s)},
		exchange{"read /x 2", quoted(s)},
	)
}

func TestP86Quoted(t *testing.T) {
	for word, s := range map[string]string{
		"_": "", "a\\sb": "a b", "\\s": " ", "\\s\\s": "  ", "\\_": "_", "\\_\\_": "__", "\\\\": "\\", "\\\\s": "\\s", "\\\\\\_": "\\_", "\\\\\\\\": "\\\\",
		"\\\\x41": "\\x41", "\\x41": "A", "\\x5f": "_", "\\x5c": "\\", "\\x5cs": "\\s", "\\x5cx41": "\\x41", "\\x20": " ", "\\x0a": "\n", "\\x00\\xff": "\x00\xff", "\\x411": "A1",
		"\\xc3\\xa9": "\u00e9", "#": "#", "0": "0", "x": "x", "s": "s", "\\ss": " s", "x41": "x41", "/": "/", "%20": "%20", "\"a\"": "\"a\"",
	} {
		stores(t, word, s)
	}
}

// TestP86QuotedBytes: \x and two digits may stand for any byte. Other bytes than visible ones must be written so.
func TestP86QuotedBytes(t *testing.T) {
	for c := range 256 {
		b := string([]byte{byte(c)})
		stores(t, fmt.Sprintf("\\x%02x", c), b)
		stores(t, fmt.Sprintf("a\\x%02xz", c), "a"+b+"z")
		stores(t, quoted(b), b)
		if c != ' ' && c != '\n' && quoted(b) != b && b != "_" {
			replies(t, "write /x "+b, "error 13\n")
		}
		if c != ' ' && c != '\n' && quoted(b) != b {
			replies(t, "write /x a"+b, "error 13\n")
			replies(t, "write /x "+b+"-", "error 13\n")
		}
	}
}

// TestP86Escapes puts each byte after a backslash.
func TestP86Escapes(t *testing.T) {
	for c := range 256 {
		b := string([]byte{byte(c)})
		switch b {
		case "s":
			stores(t, "\\s", " ")
		case "\\", "_":
			stores(t, "\\"+b, b)
		case "\n":
			replies(t, "write /x \\"+b, "error 13\n")
		default:
			replies(t, "write /x \\"+b, "error 13\n")
			replies(t, "write /x a\\"+b+"-", "error 13\n")
		}
	}
}

// TestP86Digits puts every two bytes after \x.
func TestP86Digits(t *testing.T) {
	const digits = "0123456789abcdef"
	for a := 33; a < 256; a++ {
		script, want := "", ""
		for b := 33; b < 256; b++ {
			if b%150 == 0 {
				replies(t, script, want)
				script, want = "", ""
			}
			script += "write /x \\x" + string([]byte{byte(a), byte(b)}) + "\n"
			if strings.IndexByte(digits, byte(a)) < 0 || strings.IndexByte(digits, byte(b)) < 0 {
				want += "error 13\n"
			} else {
				want += fmt.Sprintf("ok %d\n", 2+strings.Count(want, "ok"))
			}
		}
		replies(t, script, want)
	}
}

// TestP86Names: names in paths and in lists are quoted strings, too.
func TestP86Names(t *testing.T) {
	holds(t,
		exchange{"mkdir /a\\_b", "ok 2"},
		exchange{"mkdir /\\_", "ok 3"},
		exchange{"write /\\\\ x", "ok 4"},
		exchange{"mkdir /\\x41", "ok 5"},
		exchange{"mkdir \\x2fB", "ok 6"},
		exchange{"write /#/x x", "error 4"},
		exchange{"mkdir /#", "ok 7"},
		exchange{"list /", "ok # A B \\\\ \\_ a\\_b"},
		exchange{"list / 3", "ok \\_ a\\_b"},
		exchange{"kind /A", "d"},
		exchange{"kind /\\x5c", "f"},
		exchange{"kind /\\x5f", "d"},
		exchange{"mv /\\\\ /\\_/\\x73", "ok 8"},
		exchange{"list /\\_", "ok s"},
		exchange{"rm /a\\x5fb", "ok 9"},
		exchange{"mkdir /a\\sb", "error 3"},
		exchange{"mkdir /a\\x20b", "error 3"},
		exchange{"list /", "ok # A B \\_"},
	)
}

// TestP86LongContents: a quoted string may be longer than what it stands for.
func TestP86LongContents(t *testing.T) {
	for _, s := range []string{strings.Repeat("\x00", 320), strings.Repeat(" \\_\xff", 80), strings.Repeat("a", 320)} {
		holds(t, exchange{"write /x " + quoted(s), "ok 2"}, exchange{"read /x", quoted(s)}, exchange{"write /x " + quoted(s+" "), "error 2"}, exchange{"tid", "ok 2"})
	}
	if got := desk.Run("write /x " + strings.Repeat("\\x61", 16000)); got != "error 2\n" {
		t.Errorf("too large contents: %q", got)
	}
}
