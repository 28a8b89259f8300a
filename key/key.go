// Package key: what records are sorted by: see doc/01-key.md.
package key

import (
	"cmp"

	"annalist/api"
)

// components returns the numbers by which keys are compared, the most significant first.
func components(k api.Key) [3]int {
	return [3]int{k.Pfs, k.Obj, k.Off}
}

// Check returns ErrArg if a component of k is out of range.
func Check(k api.Key) api.Errno {
	limits := components(api.Key{Pfs: api.MaxPfs, Obj: api.MaxObj, Off: api.MaxOff})
	for i, c := range components(k) {
		if c < 0 || c > limits[i] {
			return api.ErrArg
		}
	}
	return api.OK
}

// Cmp returns -1, 0 or 1 if a is less than, equal to or greater than b.
// It takes keys that Check rejects too, so it must not subtract: a difference may wrap around.
func Cmp(a, b api.Key) int {
	x, y := components(a), components(b)
	for i := range x {
		if c := cmp.Compare(x[i], y[i]); c != 0 {
			return c
		}
	}
	return 0
}

// CmpSpot compares spots like Cmp: by Key, and for one key by Made.
func CmpSpot(a, b api.Spot) int {
	if c := Cmp(a.Key, b.Key); c != 0 {
		return c
	}
	return cmp.Compare(a.Made, b.Made)
}
