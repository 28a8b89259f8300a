package change_test

import (
	"fmt"
	"math/rand/v2"
	"slices"
	"testing"

	"annalist/api"
	"annalist/change"
)

func TestP79Then(t *testing.T) {
	for _, x := range []struct {
		name       string
		a, b, want []api.Change
	}{
		{"nothing", nil, []api.Change{}, nil},
		{"only the first", []api.Change{makes(1, "a"), drops(3, "")}, nil, []api.Change{makes(1, "a"), drops(3, "")}},
		{"only the second", nil, []api.Change{makes(1, "a"), drops(3, "")}, []api.Change{makes(1, "a"), drops(3, "")}},
		{"different keys", []api.Change{makes(2, "a"), drops(4, "b")}, []api.Change{drops(1, "c"), makes(3, ""), turns(5, "", "d")},
			[]api.Change{drops(1, "c"), makes(2, "a"), makes(3, ""), drops(4, "b"), turns(5, "", "d")}},
		{"all keys of the second greater", []api.Change{makes(1, "a"), makes(2, "a")}, []api.Change{drops(3, "b"), drops(4, "b")},
			[]api.Change{makes(1, "a"), makes(2, "a"), drops(3, "b"), drops(4, "b")}},
		{"all keys of the second less", []api.Change{drops(3, "b"), drops(4, "b")}, []api.Change{makes(1, "a"), makes(2, "a")},
			[]api.Change{makes(1, "a"), makes(2, "a"), drops(3, "b"), drops(4, "b")}},
		{"keys in realms and objects", []api.Change{makes(9, ""), of(api.Key{Pfs: 1}, makes(0, ""))}, []api.Change{of(api.Key{Obj: 1}, makes(0, "")), of(topKey, makes(0, ""))},
			[]api.Change{makes(9, ""), of(api.Key{Obj: 1}, makes(0, "")), of(api.Key{Pfs: 1}, makes(0, "")), of(topKey, makes(0, ""))}},
		{"made, then turned", []api.Change{makes(1, "a")}, []api.Change{turns(1, "a", "b")}, []api.Change{makes(1, "b")}},
		{"made, then dropped", []api.Change{makes(1, "a")}, []api.Change{drops(1, "a")}, nil},
		{"made empty, then dropped", []api.Change{makes(1, "")}, []api.Change{drops(1, "")}, nil},
		{"turned, then dropped", []api.Change{turns(1, "a", "b")}, []api.Change{drops(1, "b")}, []api.Change{drops(1, "a")}},
		{"turned twice", []api.Change{turns(1, "a", "b")}, []api.Change{turns(1, "b", "c")}, []api.Change{turns(1, "a", "c")}},
		{"turned and back", []api.Change{turns(1, "a", "b")}, []api.Change{turns(1, "b", "a")}, nil},
		{"dropped, then made", []api.Change{drops(1, "a")}, []api.Change{makes(1, "b")}, []api.Change{turns(1, "a", "b")}},
		{"dropped, then made empty", []api.Change{drops(1, "a")}, []api.Change{makes(1, "")}, []api.Change{turns(1, "a", "")}},
		{"dropped, then made as it was", []api.Change{drops(1, "a")}, []api.Change{makes(1, "a")}, nil},
		{"dropped empty, then made empty", []api.Change{drops(1, "")}, []api.Change{makes(1, "")}, nil},
		{"some keys in both", []api.Change{makes(1, "a"), makes(3, "a"), turns(4, "x", "y"), makes(6, "")}, []api.Change{makes(2, "b"), turns(3, "a", "b"), turns(4, "y", "x"), drops(7, "")},
			[]api.Change{makes(1, "a"), makes(2, "b"), makes(3, "b"), makes(6, ""), drops(7, "")}},
	} {
		got, err := change.Then(x.a, x.b)
		is(t, x.name+": Then", got, err, x.want, api.OK)
	}
}

// composed is the change of a key that occurs in two changes, or none if there is none, or ErrArg.
func composed(x, y api.Change) ([]api.Change, api.Errno) {
	if x.Has != y.Had || x.Is != y.Was {
		return nil, api.ErrArg
	}
	if x.Had == y.Has && x.Was == y.Is {
		return nil, api.OK
	}
	return []api.Change{{Key: x.Key, Had: x.Had, Was: x.Was, Has: y.Has, Is: y.Is}}, api.OK
}

// TestP79EveryPair composes all pairs of changes of one key, alone and between changes of other keys.
func TestP79EveryPair(t *testing.T) {
	all := flips(5, "", "a", "b", full)
	for _, x := range all {
		for _, y := range all {
			middle, wantErr := composed(x, y)
			got, err := change.Then([]api.Change{x}, []api.Change{y})
			is(t, fmt.Sprintf("%v then %v", x, y), got, err, middle, wantErr)
			got, err = change.Then([]api.Change{makes(3, ""), x, makes(7, "")}, []api.Change{drops(2, ""), y, drops(6, "")})
			want := slices.Concat([]api.Change{drops(2, ""), makes(3, "")}, middle, []api.Change{drops(6, ""), makes(7, "")})
			if wantErr != api.OK {
				want = nil
			}
			is(t, fmt.Sprintf("%v then %v, among others", x, y), got, err, want, wantErr)
		}
	}
}

// TestP79EveryPlace: the state of each key that occurs in both must fit, the last one's as well as the first one's.
func TestP79EveryPlace(t *testing.T) {
	for n := 1; n < 12; n++ {
		a := many(1, n)
		b, _ := change.Back(a)
		for i := range n {
			for _, c := range []api.Change{makes(1+i, "x"), drops(1+i, "y"), drops(1+i, ""), turns(1+i, "y", "x")} {
				wrong := slices.Clone(b)
				wrong[i] = c
				got, err := change.Then(a, wrong)
				is(t, fmt.Sprintf("%v then %v", a, wrong), got, err, nil, api.ErrArg)
			}
		}
	}
}

// TestP79TheExample: changes followed by their reversal compose to nothing.
func TestP79TheExample(t *testing.T) {
	lists := [][]api.Change{nil, many(0, 400), {makes(1, "a"), drops(2, "b"), turns(4, "c", ""), of(topKey, turns(0, "", full))}}
	for _, a := range times {
		for _, b := range times {
			l, _ := change.Between(history(), a, b)
			lists = append(lists, l)
		}
	}
	for _, l := range lists {
		back, _ := change.Back(l)
		got, err := change.Then(l, back)
		is(t, fmt.Sprintf("%v and back", l), got, err, nil, api.OK)
		got, err = change.Then(back, l)
		is(t, fmt.Sprintf("back and %v", l), got, err, nil, api.OK)
	}
}

// TestP79BetweenThreeTimes: the changes from a to b, then those from b to c, are those from a to c.
func TestP79BetweenThreeTimes(t *testing.T) {
	l := history()
	for _, a := range times {
		for _, b := range times {
			for _, c := range times {
				first, _ := change.Between(l, a, b)
				second, _ := change.Between(l, b, c)
				want, _ := change.Between(l, a, c)
				got, err := change.Then(first, second)
				is(t, fmt.Sprint("Then of ", a, b, c), got, err, want, api.OK)
			}
		}
	}
}

// TestP79Random composes two random lists, most of which fit, and compares with what is done key by key.
func TestP79Random(t *testing.T) {
	met := map[api.Errno]int{}
	for seed := range uint64(3000) {
		r := rand.New(rand.NewPCG(seed, 1))
		var a, b, want []api.Change
		wantErr := api.OK
		for off := range 1 + r.IntN(8) {
			all := flips(off, "", "a", "b")
			x, y := all[r.IntN(len(all))], all[r.IntN(len(all))]
			switch r.IntN(4) {
			case 0:
				a, want = append(a, x), append(want, x)
			case 1:
				b, want = append(b, x), append(want, x)
			case 2:
				for x.Has != y.Had || x.Is != y.Was {
					y = all[r.IntN(len(all))]
				}
				fallthrough
			case 3:
				a, b = append(a, x), append(b, y)
				both, err := composed(x, y)
				want, wantErr = append(want, both...), max(wantErr, err)
			}
		}
		if wantErr != api.OK {
			want = nil
		}
		met[wantErr]++
		got, err := change.Then(a, b)
		is(t, fmt.Sprintf("%v then %v", a, b), got, err, want, wantErr)
	}
	if met[api.OK] < 500 || met[api.ErrArg] < 500 {
		t.Errorf("the lists are too similar: %v", met)
	}
}

// TestP79Bound: there can be 400 changes, no matter in how many they are composed.
func TestP79Bound(t *testing.T) {
	dropped, _ := change.Back(many(0, 400))
	turned := slices.Clone(dropped)
	for i := range turned {
		turned[i] = turns(i, "x", "y")
	}
	for _, x := range []struct {
		name string
		a, b []api.Change
		want int // length
		err  api.Errno
	}{
		{"400 and none", many(0, 400), nil, 400, api.OK},
		{"none and 400", nil, many(0, 400), 400, api.OK},
		{"200 and 200", many(0, 200), many(200, 200), 400, api.OK},
		{"200 and 200 before them", many(200, 200), many(0, 200), 400, api.OK},
		{"400 and the same keys", many(0, 400), turned, 400, api.OK},
		{"400 that the others reverse", many(0, 400), dropped, 0, api.OK},
		{"400, one of which is another's", many(0, 400), append(slices.Clone(turned[1:]), makes(400, "")), 0, api.ErrLarge},
		{"400, of which one is reversed, and one more", many(0, 400), []api.Change{drops(7, "x"), makes(400, "")}, 400, api.OK},
		{"400, of which one is reversed, and two more", many(0, 400), []api.Change{drops(7, "x"), makes(400, ""), makes(401, "")}, 0, api.ErrLarge},
		{"201 and 200", many(0, 201), many(201, 200), 0, api.ErrLarge},
		{"200 and 201", many(0, 200), many(200, 201), 0, api.ErrLarge},
		{"400 and one", many(1, 400), many(0, 1), 0, api.ErrLarge},
		{"one and 400", many(400, 1), many(0, 400), 0, api.ErrLarge},
		{"400 and 400", many(0, 400), many(400, 400), 0, api.ErrLarge},
		{"a wrong state before too many", many(0, 400), append([]api.Change{drops(399, "y")}, many(400, 9)...), 0, api.ErrArg},
		{"a wrong state after too many", append(many(0, 399), makes(900, "x")), append(many(400, 399), makes(900, "x")), 0, api.ErrArg},
	} {
		got, err := change.Then(x.a, x.b)
		if len(got) != x.want || err != x.err {
			t.Errorf("%s: %d changes, %d, want %d, %d", x.name, len(got), err, x.want, x.err)
		}
		if change.Check(got) != api.OK {
			t.Errorf("%s: the result is not valid", x.name)
		}
	}
}

// TestP77P79ReturnsTheFirstError: first list, second list, states.
func TestP77P79ReturnsTheFirstError(t *testing.T) {
	for _, x := range badLists() {
		for _, y := range badLists() {
			got, err := change.Then(x.l, y.l)
			is(t, x.name+" then "+y.name, got, err, nil, x.want)
		}
		for _, l := range [][]api.Change{nil, {makes(1, "a")}, {drops(1, "z"), drops(2, "z")}, many(500, 400)} {
			got, err := change.Then(x.l, l)
			is(t, x.name+" first", got, err, nil, x.want)
			got, err = change.Then(l, x.l)
			is(t, x.name+" second", got, err, nil, x.want)
		}
	}
}
