package key_test

import (
	"math"
	"testing"

	"annalist/api"
	"annalist/key"
)

func TestP3CheckAcceptsKeysInRange(t *testing.T) {
	for _, k := range []api.Key{
		{},
		{Pfs: 3, Obj: 77, Off: 4096},
		{Pfs: 15},
		{Obj: 1 << 20},
		{Off: 1 << 30},
		{Pfs: 15, Obj: 1 << 20, Off: 1 << 30},
	} {
		if got := key.Check(k); got != api.OK {
			t.Errorf("Check(%v) = %d, want OK", k, got)
		}
	}
}

func TestP3CheckRejectsComponentsOutOfRange(t *testing.T) {
	for _, k := range []api.Key{
		{Pfs: -1}, {Pfs: 16}, {Pfs: math.MinInt}, {Pfs: math.MaxInt},
		{Obj: -1}, {Obj: 1<<20 + 1}, {Obj: math.MinInt}, {Obj: math.MaxInt},
		{Off: -1}, {Off: 1<<30 + 1}, {Off: math.MinInt}, {Off: math.MaxInt},
		{Pfs: 15, Obj: 1 << 20, Off: 1<<30 + 1},
		{Pfs: -1, Obj: -1, Off: -1},
	} {
		if got := key.Check(k); got != api.ErrArg {
			t.Errorf("Check(%v) = %d, want ErrArg", k, got)
		}
	}
}

// ascending lists keys in increasing order, among them some that Check rejects:
// a component outweighs all that follow it.
var ascending = []api.Key{
	{Pfs: math.MinInt, Obj: math.MaxInt, Off: math.MaxInt},
	{Pfs: -1, Obj: 5, Off: 5},
	{Obj: math.MinInt, Off: math.MaxInt},
	{Obj: -1},
	{Off: math.MinInt},
	{Off: -1},
	{},
	{Off: 1},
	{Off: 1 << 30},
	{Off: math.MaxInt},
	{Obj: 1},
	{Obj: 1, Off: 2},
	{Obj: 1 << 20, Off: 1 << 30},
	{Obj: math.MaxInt},
	{Pfs: 1, Obj: math.MinInt, Off: math.MinInt},
	{Pfs: 1},
	{Pfs: 1, Obj: 1},
	{Pfs: 15, Obj: 1 << 20, Off: 1 << 30},
	{Pfs: math.MaxInt},
}

// order is what a comparison of the elements i and j of an increasing list must return.
func order(i, j int) int {
	switch {
	case i < j:
		return -1
	case i > j:
		return 1
	}
	return 0
}

func TestP4CmpOrdersKeys(t *testing.T) {
	for i, a := range ascending {
		for j, b := range ascending {
			if got, want := key.Cmp(a, b), order(i, j); got != want {
				t.Errorf("Cmp(%v, %v) = %d, want %d", a, b, got, want)
			}
		}
	}
}

func TestP4RealmOneIsGreaterThanRealmZero(t *testing.T) {
	least := api.Key{Pfs: 1}
	greatest := api.Key{Obj: api.MaxObj, Off: api.MaxOff}
	if got := key.Cmp(least, greatest); got != 1 {
		t.Errorf("Cmp(%v, %v) = %d, want 1", least, greatest, got)
	}
}

func TestP4CmpSpotOrdersByKeyThenMade(t *testing.T) {
	var spots []api.Spot
	for _, k := range ascending {
		for _, made := range []int{math.MinInt, -1, 0, 1, 2, api.MaxTid, math.MaxInt} {
			spots = append(spots, api.Spot{Key: k, Made: made})
		}
	}
	for i, a := range spots {
		for j, b := range spots {
			if got, want := key.CmpSpot(a, b), order(i, j); got != want {
				t.Errorf("CmpSpot(%v, %v) = %d, want %d", a, b, got, want)
			}
		}
	}
}
