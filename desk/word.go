package desk

import (
	"strconv"
	"strings"

	"annalist/api"
	"annalist/hex"
)

// maxDigits is how long a number may be.
const maxDigits = 9

// How bytes are written in a quoted string that would end a word, or look like something else in it.
const (
	empty  = "_"
	escape = `\`
	space  = `\s`
	digits = `\x`
)

// split returns the words of a line.
func split(line string) []string {
	return strings.FieldsFunc(strings.TrimSuffix(line, "\n"), func(r rune) bool { return r == ' ' })
}

// number returns the number that a word is. If it is none, it raises ErrWord.
func number(word string) int {
	n, err := strconv.Atoi(word)
	// Atoi accepts signs and leading zeros, Itoa writes none but -.
	if err != nil || n < 0 || len(word) > maxDigits || strconv.Itoa(n) != word {
		panic(api.ErrWord)
	}
	return n
}

// numbers returns the numbers that words are.
func numbers(words []string) []int {
	var l []int
	for _, word := range words {
		l = append(l, number(word))
	}
	return l
}

// quoted returns a string as a quoted string.
func quoted(s string) string {
	if s == "" {
		return empty
	}
	var word strings.Builder
	for i := range len(s) {
		word.WriteString(symbol(s[i]))
	}
	return word.String()
}

// symbol returns how a byte is written in a quoted string.
func symbol(c byte) string {
	switch {
	case c == ' ':
		return space
	case c == escape[0] || c == empty[0]:
		return escape + string([]byte{c})
	case plain(c):
		return string([]byte{c})
	}
	return digits + hex.Of(c)
}

// plain reports whether a byte is visible, and written as itself in a quoted string.
func plain(c byte) bool {
	return c >= '!' && c <= '~' && c != escape[0] && c != empty[0]
}

// unquoted returns the string of which a word is a quoted string. If there is none, it raises ErrWord.
func unquoted(word string) string {
	if word == empty {
		return ""
	}
	var s []byte
	for word != "" {
		c, n := next(word)
		if n == 0 {
			panic(api.ErrWord)
		}
		s = append(s, c)
		word = word[n:]
	}
	return string(s)
}

// next returns the byte with which a quoted string begins, and how long it is written there: 0 if no byte is written so.
func next(word string) (byte, int) {
	switch {
	case plain(word[0]):
		return word[0], 1
	case strings.HasPrefix(word, space):
		return ' ', len(space)
	case strings.HasPrefix(word, escape+escape), strings.HasPrefix(word, escape+empty):
		return word[1], 2
	case strings.HasPrefix(word, digits):
		if c, is := hex.Get(word[len(digits):]); is {
			return c, len(digits) + 2
		}
	}
	return 0, 0
}
