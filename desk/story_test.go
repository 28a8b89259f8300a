package desk_test

import (
	"fmt"
	"math/rand/v2"
	"regexp"
	"strings"
	"testing"

	"annalist/api"
	"annalist/build"
	"annalist/desk"
	"annalist/fs"
	"annalist/stream"
)

// shapes say of which words each command consists: texts (T), numbers (N), a number that may be omitted (?), any number of numbers (*).
var shapes = map[string]string{
	"mkdir": "T", "write": "TT", "patch": "TNT", "rm": "T", "mv": "TT", "prune": "*", "tid": "",
	"kind": "T?", "read": "T?", "list": "T?", "count": "?", "nodes": "", "stream": "NN",
}

var (
	numberForm = regexp.MustCompile(`^(0|[1-9][0-9]{0,8})$`)
	textForm   = regexp.MustCompile(`^(_|([!-\[\]^` + "`" + `-~]|\\[s\\_]|\\x[0-9a-f]{2})+)$`)
	textPart   = regexp.MustCompile(`\\x..|\\.|[^\\]`)
)

// model is an interpreter that reads all words of a line by the shape of its command before it performs it.
type model struct {
	f       *fs.FS
	texts   []string
	numbers []int
}

// read reads words of a shape, and reports whether it could.
func (m *model) read(shape string, words []string) bool {
	m.texts, m.numbers = nil, nil
	optional := strings.HasSuffix(shape, "?")
	shape = strings.TrimSuffix(shape, "?")
	if shape == "*" {
		shape = strings.Repeat("N", len(words))
	}
	if optional && len(words) == len(shape)+1 {
		shape += "N"
	}
	if len(words) != len(shape) {
		return false
	}
	for i, word := range words {
		if shape[i] == 'N' {
			n := 0
			fmt.Sscan(word, &n)
			m.numbers = append(m.numbers, n)
		} else {
			m.texts = append(m.texts, plainText(word))
		}
		if is := map[byte]*regexp.Regexp{'N': numberForm, 'T': textForm}[shape[i]]; !is.MatchString(word) {
			return false
		}
	}
	if optional && len(m.numbers) == 0 {
		m.numbers = []int{m.f.Tid()}
	}
	return true
}

// plainText is what a quoted string stands for.
func plainText(word string) string {
	if word == "_" {
		return ""
	}
	return textPart.ReplaceAllStringFunc(word, func(part string) string {
		switch {
		case part == "\\s":
			return " "
		case strings.HasPrefix(part, "\\x"):
			c := 0
			fmt.Sscanf(part, "\\x%02x", &c)
			return string([]byte{byte(c)})
		}
		return strings.TrimPrefix(part, "\\")
	})
}

// reply performs a line that has words.
func (m *model) reply(words []string) string {
	shape, is := shapes[words[0]]
	if !is || !m.read(shape, words[1:]) {
		return "error 13"
	}
	text, err := m.perform(words[0])
	if err != api.OK {
		return fmt.Sprint("error ", int(err))
	}
	if text == "" {
		text = fmt.Sprint("ok ", m.f.Tid())
	}
	return text
}

// perform performs a command. The text is empty if the reply is the time.
func (m *model) perform(name string) (text string, err api.Errno) {
	texts, numbers, n := append(m.texts, "", ""), append(m.numbers, 0), 0
	switch name {
	case "mkdir":
		return "", m.f.Mkdir(texts[0])
	case "write":
		return "", m.f.Write(texts[0], texts[1])
	case "patch":
		return "", m.f.Patch(texts[0], numbers[0], texts[1])
	case "rm":
		return "", m.f.Remove(texts[0])
	case "mv":
		return "", m.f.Move(texts[0], texts[1])
	case "prune":
		return "", m.f.Prune(m.numbers)
	case "tid":
		return "", api.OK
	case "kind":
		return m.f.Kind(texts[0], numbers[0])
	case "read":
		text, err = m.f.Read(texts[0], numbers[0])
		return quoted(text), err
	case "list":
		names, err := m.f.List(texts[0], numbers[0])
		for _, name := range names {
			text += " " + quoted(name)
		}
		return "ok" + text, err
	case "count":
		n, err = m.f.Count(numbers[0])
	case "nodes":
		tree, _ := build.Of(m.f.Run())
		n = len(tree.Nodes)
	case "stream":
		text, err = stream.Read(m.f.Run(), 0, numbers[0], numbers[1])
		n = len(text)
	}
	return fmt.Sprint("ok ", n), err
}

// story makes up lines. What is written in it has up to size bytes.
type story struct {
	*rand.Rand
	size int
}

// one is one of several strings.
func (s story) one(l ...string) string {
	return l[s.IntN(len(l))]
}

// word is a word of a kind, as a rule.
func (s story) word(kind byte) string {
	switch {
	case s.IntN(40) == 0:
		return s.one("_", "0", "007", "\\", "a_b", "\\x4", "x\ty", "\xff", "#", "-1", "1000000000", "/\\x2f", "\\x00")
	case kind == 'N':
		return fmt.Sprint(s.IntN(s.IntN(60) + 1))
	case kind == 'C':
		text := make([]byte, s.IntN(s.size)|s.IntN(s.size))
		for i := range text {
			text[i] = s.one("abc \\_", "\x00\n\t\x80\xff~")[s.IntN(6)]
		}
		return quoted(string(text))
	case s.IntN(12) == 0:
		return "/"
	}
	path := ""
	for path == "" || s.IntN(3) == 0 {
		path += "/" + s.one("a", "b", "c", "d\\_e", "\\\\", "\\x61", "#")
	}
	return path
}

// line is a line with a command, as a rule.
func (s story) line() string {
	name := s.one("mkdir", "mkdir", "write", "write", "write", "patch", "patch", "rm", "mv", "mv", "tid", "kind", "read", "read", "list", "list", "count", "nodes", "stream")
	if s.size > 300 && s.IntN(2) == 0 {
		name = "write"
	}
	if s.IntN(30) == 0 {
		name = s.one("prune", "none", "#", "", " ", "Tid")
	}
	line := s.one("", "", "", " ", "  ") + name
	for _, kind := range []byte(shapes[name]) {
		switch {
		case kind == '?' && s.IntN(2) == 0:
		case kind == '?':
			line += s.one(" ", " ", "   ") + s.word('N')
		case kind == '*':
			line += strings.Repeat(" "+s.word('N'), s.IntN(5)) + " " + s.word('N')
		case kind == 'T' && (name == "write" || name == "patch") && strings.Contains(line, "/"):
			line += " " + s.word('C')
		default:
			line += s.one(" ", " ", "   ") + s.word(kind)
		}
	}
	if s.IntN(60) == 0 {
		line += " " + s.word('N')
	}
	return line + s.one("", "", "", " ")
}

// TestP86Stories performs random scripts and compares the replies with those of a model.
func TestP86Stories(t *testing.T) {
	met := map[string]int{}
	for seed := range uint64(300) {
		s := story{rand.New(rand.NewPCG(seed, 2)), []int{5, 40, 320}[seed%3]}
		m := &model{f: fs.New()}
		script, want := "", ""
		for n := 0; n < 200 && len(script) < 60000; n++ {
			line := s.line()
			script += line + "\n"
			words := strings.FieldsFunc(line, func(r rune) bool { return r == ' ' })
			if len(words) == 0 || words[0] == "#" {
				met["no reply"]++
				continue
			}
			reply := m.reply(words)
			met[words[0]]++
			if strings.HasPrefix(reply, "error ") {
				met[words[0]+" "+reply]++
				met[reply]++
			}
			want += reply + "\n"
		}
		if got := desk.Run(script); got != want {
			t.Fatalf("seed %d: script:\n%s\nreplies:\n%s\nwant:\n%s", seed, script, got, want)
		}
	}
	for _, e := range []string{"error 1", "error 2", "error 3", "error 4", "error 5", "error 8", "error 9", "error 12", "error 13", "no reply"} {
		if met[e] < 5 {
			t.Errorf("%s occurs %d times", e, met[e])
		}
	}
	for name := range shapes {
		if bad := met[name+" error 13"]; bad == 0 || met[name]-bad < 100 {
			t.Errorf("%s occurs %d times, %d of them with an error 13", name, met[name], bad)
		}
	}
}

// TestP86Noise: whatever is entered, each line that has words has one reply, and the last command works.
func TestP86Noise(t *testing.T) {
	s := story{rand.New(rand.NewPCG(3, 3)), 9}
	for range 3000 {
		script := ""
		for range s.IntN(150) {
			script += s.one("\n", "\n", " ", " ", "#", "\\", "\\x", "_", "/", "0", "1", "tid", "read", "mkdir", "prune", "\t", "\r", string([]byte{byte(s.IntN(256))}))
		}
		want := 0
		for _, line := range strings.Split(script, "\n") {
			first, _, _ := strings.Cut(strings.TrimLeft(line, " "), " ")
			if first != "" && first != "#" {
				want++
			}
		}
		got := desk.Run(script + "\nnodes\n")
		if n := strings.Count(got, "\n"); n != want+1 || !strings.HasSuffix(got, "ok 1\n") {
			t.Fatalf("Run(%q) = %q, want %d replies", script, got, want+1)
		}
	}
}
