// Package hex: bytes as two hexadecimal digits. It is no layer: what texts share is in it.
package hex

import "strings"

// digits are the digits by their values. Capital letters are none.
const digits = "0123456789abcdef"

// Of returns the two digits of a byte.
func Of(c byte) string {
	return string([]byte{digits[c>>4], digits[c&15]})
}

// Get returns the byte whose two digits are at the beginning of s, and whether there are two.
func Get(s string) (byte, bool) {
	if len(s) < 2 {
		return 0, false
	}
	high, low := strings.IndexByte(digits, s[0]), strings.IndexByte(digits, s[1])
	if high < 0 || low < 0 {
		return 0, false
	}
	return byte(high<<4 | low), true
}
