// Package elem: records: see doc/02-elem.md.
package elem

import (
	"annalist/api"
	"annalist/key"
)

// Check validates a record: its key, then its times, then the length of its value.
func Check(e api.Elem) api.Errno {
	if err := key.Check(e.Key); err != api.OK {
		return err
	}
	if !timesFit(e.Made, e.Gone) {
		return api.ErrTid
	}
	if len(e.Val) > api.MaxVal {
		return api.ErrLarge
	}
	return api.OK
}

// timesFit reports whether a record may be created at made and deleted at gone (0: not deleted).
func timesFit(made, gone int) bool {
	if !isTime(made) {
		return false
	}
	return gone == 0 || isTime(gone) && gone > made
}

// isTime reports whether t is a time. 0 is none: as Gone it means 'not deleted'.
func isTime(t int) bool {
	return t >= 1 && t <= api.MaxTid
}

// Spot returns the key and Made of a record.
func Spot(e api.Elem) api.Spot {
	return api.Spot{Key: e.Key, Made: e.Made}
}

// Live reports whether a record is live at t: from its creation on, up to but not at its deletion.
func Live(e api.Elem, t int) bool {
	return e.Made <= t && (e.Gone == 0 || e.Gone > t)
}

// Last returns the last time at which something happened to a record.
func Last(e api.Elem) int {
	return max(e.Made, e.Gone)
}
