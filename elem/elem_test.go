package elem_test

import (
	"math"
	"strings"
	"testing"

	"annalist/api"
	"annalist/elem"
)

var (
	someKey = api.Key{Pfs: 1, Obj: 2, Off: 3}
	topKey  = api.Key{Pfs: 15, Obj: 1 << 20, Off: 1 << 30}
	badKey  = api.Key{Pfs: 16}
	full    = strings.Repeat("v", 40)
	over    = strings.Repeat("v", 41)
)

func TestP5Check(t *testing.T) {
	for _, x := range []struct {
		name string
		e    api.Elem
		want api.Errno
	}{
		{"not deleted", api.Elem{Key: someKey, Made: 3, Val: "a"}, api.OK},
		{"deleted", api.Elem{Key: someKey, Made: 3, Gone: 5, Val: "a"}, api.OK},
		{"deleted at the next time", api.Elem{Made: 3, Gone: 4}, api.OK},
		{"first time, empty value", api.Elem{Made: 1}, api.OK},
		{"last time", api.Elem{Key: topKey, Made: math.MaxInt32}, api.OK},
		{"deleted at the last time", api.Elem{Made: math.MaxInt32 - 1, Gone: math.MaxInt32}, api.OK},
		{"forty bytes", api.Elem{Made: 1, Val: full}, api.OK},
		{"any bytes", api.Elem{Made: 1, Val: "\x00\xff\n"}, api.OK},

		{"realm too large", api.Elem{Key: badKey, Made: 1}, api.ErrArg},
		{"negative object", api.Elem{Key: api.Key{Obj: -1}, Made: 1}, api.ErrArg},
		{"offset too large", api.Elem{Key: api.Key{Off: 1<<30 + 1}, Made: 1}, api.ErrArg},

		{"made at 0", api.Elem{Key: someKey}, api.ErrTid},
		{"made at 0 and deleted", api.Elem{Gone: 1}, api.ErrTid},
		{"made before 0", api.Elem{Made: -1}, api.ErrTid},
		{"made before 0 and deleted", api.Elem{Made: -1, Gone: 1}, api.ErrTid},
		{"made after the last time", api.Elem{Made: math.MaxInt32 + 1}, api.ErrTid},
		{"made at the least number", api.Elem{Made: math.MinInt}, api.ErrTid},
		{"made at the greatest number", api.Elem{Made: math.MaxInt}, api.ErrTid},
		{"deleted when made", api.Elem{Made: 3, Gone: 3}, api.ErrTid},
		{"deleted before made", api.Elem{Made: 3, Gone: 2}, api.ErrTid},
		{"deleted before 0", api.Elem{Made: 3, Gone: -1}, api.ErrTid},
		{"deleted after the last time", api.Elem{Made: 3, Gone: math.MaxInt32 + 1}, api.ErrTid},
		{"deleted at the least number", api.Elem{Made: 3, Gone: math.MinInt}, api.ErrTid},
		{"deleted at the greatest number", api.Elem{Made: 3, Gone: math.MaxInt}, api.ErrTid},

		{"forty-one bytes", api.Elem{Made: 1, Val: over}, api.ErrLarge},
		{"a long value", api.Elem{Made: 1, Gone: 2, Val: strings.Repeat("v", 1<<16)}, api.ErrLarge},
		{"bytes count, not runes", api.Elem{Made: 1, Val: strings.Repeat("\u00e9", 21)}, api.ErrLarge},
	} {
		if got := elem.Check(x.e); got != x.want {
			t.Errorf("%s: Check(%v) = %d, want %d", x.name, x.e, got, x.want)
		}
	}
}

func TestP5CheckReturnsTheFirstError(t *testing.T) {
	for _, x := range []struct {
		name string
		e    api.Elem
		want api.Errno
	}{
		{"key before Made", api.Elem{Key: badKey}, api.ErrArg},
		{"key before Gone", api.Elem{Key: badKey, Made: 3, Gone: 3}, api.ErrArg},
		{"key before value", api.Elem{Key: badKey, Made: 3, Val: over}, api.ErrArg},
		{"key before all", api.Elem{Key: badKey, Val: over}, api.ErrArg},
		{"Made before value", api.Elem{Val: over}, api.ErrTid},
		{"Gone before value", api.Elem{Made: 3, Gone: 3, Val: over}, api.ErrTid},
	} {
		if got := elem.Check(x.e); got != x.want {
			t.Errorf("%s: Check(%v) = %d, want %d", x.name, x.e, got, x.want)
		}
	}
}

func TestP6Spot(t *testing.T) {
	for _, k := range []api.Key{{}, someKey, topKey, badKey, {Pfs: math.MinInt, Obj: math.MaxInt, Off: -1}} {
		for _, made := range []int{math.MinInt, -1, 0, 1, 7, math.MaxInt32, math.MaxInt} {
			e := api.Elem{Key: k, Made: made, Gone: 9, Val: over}
			if got, want := elem.Spot(e), (api.Spot{Key: k, Made: made}); got != want {
				t.Errorf("Spot(%v) = %v, want %v", e, got, want)
			}
		}
	}
}

func TestP6Live(t *testing.T) {
	for _, x := range []struct {
		made, gone, t int
		want          bool
	}{
		{3, 5, 2, false}, {3, 5, 3, true}, {3, 5, 4, true}, {3, 5, 5, false}, {3, 5, 6, false},
		{3, 0, 2, false}, {3, 0, 3, true}, {3, 0, math.MaxInt32, true}, {3, 0, math.MaxInt, true},
		{3, 0, 0, false}, {3, 0, -1, false}, {3, 0, math.MinInt, false},
		{3, 4, 3, true}, {3, 4, 4, false},
		{3, 3, 3, false}, {5, 3, 4, false}, {5, 3, 5, false},
		{0, 0, 0, true}, {0, 0, -1, false},
		{-5, -3, -4, true}, {-5, -3, -3, false}, {-5, -3, -6, false},
		{-5, 0, -5, true}, {-5, 0, 1, true},
		{math.MinInt, 0, math.MinInt, true}, {math.MinInt, 0, math.MaxInt, true},
		{math.MinInt, math.MaxInt, math.MaxInt - 1, true}, {math.MinInt, math.MaxInt, math.MaxInt, false},
		{math.MaxInt, 0, math.MaxInt, true}, {math.MaxInt, 0, math.MinInt, false},
		{1, math.MinInt, 1, false}, {math.MaxInt, math.MinInt, 0, false},
	} {
		e := api.Elem{Key: badKey, Made: x.made, Gone: x.gone, Val: over}
		if got := elem.Live(e, x.t); got != x.want {
			t.Errorf("made %d, gone %d: live at %d: %v, want %v", x.made, x.gone, x.t, got, x.want)
		}
	}
}

func TestP6Last(t *testing.T) {
	for _, x := range []struct{ made, gone, want int }{
		{3, 0, 3}, {3, 5, 5}, {5, 3, 5}, {3, 3, 3}, {0, 0, 0},
		{-5, 0, 0}, {-5, -3, -3}, {-3, -5, -3},
		{1, math.MaxInt32, math.MaxInt32},
		{math.MinInt, math.MaxInt, math.MaxInt}, {math.MaxInt, math.MinInt, math.MaxInt},
		{math.MinInt, math.MinInt, math.MinInt}, {math.MinInt, 0, 0},
	} {
		e := api.Elem{Key: badKey, Made: x.made, Gone: x.gone, Val: over}
		if got := elem.Last(e); got != x.want {
			t.Errorf("made %d, gone %d: Last = %d, want %d", x.made, x.gone, got, x.want)
		}
	}
}
