// Package number: numbers as bytes, the most significant first. It is no layer: what encodings share is in it.
package number

// Append appends n in size bytes, for which it must not be too large.
func Append(b []byte, n, size int) []byte {
	for i := size - 1; i >= 0; i-- {
		b = append(b, byte(n>>(8*i)))
	}
	return b
}

// Of decodes the number whose bytes are those of s.
func Of(s string) int {
	n := 0
	for i := range len(s) {
		n = n<<8 | int(s[i])
	}
	return n
}
