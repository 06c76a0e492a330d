package vec_test

import (
	"math"
	"math/rand"
	"slices"
	"testing"

	"meridian/api"
	"meridian/hlc"
	"meridian/vec"
)

func st(milli, count int) api.Stamp { return api.Stamp{Milli: milli, Count: count} }

func made(t *testing.T, places int) *vec.Vec {
	t.Helper()
	v, e := vec.New(places)
	if e != api.OK || v.Stable() != st(0, 0) || v.Mark() != st(0, 0) {
		t.Fatal(e)
	}
	return v
}

// P20.1.
func TestNew(t *testing.T) {
	for _, n := range []int{0, -1, api.MaxNodes + 1, math.MinInt, math.MaxInt} {
		if v, e := vec.New(n); v != nil || e != api.ErrArg {
			t.Error(n, e)
		}
	}
	made(t, 1)
	made(t, api.MaxNodes)
}

// P20.1, P20.2: known and floor, each by itself; the example.
func TestReachAndFloor(t *testing.T) {
	v := made(t, 2)
	if !v.Reach(0, st(5, 0)) || v.Stable() != st(0, 0) || !v.Reach(1, st(3, 1)) || v.Stable() != st(3, 1) || v.Mark() != st(0, 0) {
		t.Error(v.Stable())
	}
	if v.Reach(1, st(3, 1)) || v.Reach(1, st(3, 0)) || v.Reach(1, st(2, 9)) || !v.Reach(1, st(3, 2)) || v.Known(1) != st(3, 2) {
		t.Error("Reach")
	}
	if !v.Floor(0, st(1, 0)) || v.Floor(0, st(1, 0)) || !v.Floor(1, st(2, 0)) || v.Mark() != st(1, 0) || v.Stable() != st(3, 2) {
		t.Error("Floor")
	}
	for _, place := range []int{-1, 2, math.MinInt, math.MaxInt} {
		if v.Reach(place, st(9, 9)) || v.Floor(place, st(9, 9)) || v.Known(place) != st(0, 0) {
			t.Error(place)
		}
	}
	for _, s := range []api.Stamp{st(-1, 0), st(9, -1), st(api.MaxMilli+1, 0), st(9, api.MaxCount+1)} {
		if v.Reach(0, s) || v.Floor(0, s) {
			t.Error(s)
		}
	}
	if !v.Reach(0, st(api.MaxMilli, api.MaxCount)) || !v.Floor(0, st(api.MaxMilli, api.MaxCount)) {
		t.Error("the greatest stamp")
	}
	one := made(t, 1)
	if one.Reach(0, st(0, 0)) || !one.Reach(0, st(0, 1)) || one.Stable() != st(0, 1) {
		t.Error("one place")
	}
}

func TestLeast(t *testing.T) {
	l := []api.Stamp{st(3, 0), st(2, 9), st(2, 8), st(4, -1)}
	if vec.Least() != st(0, 0) || vec.Least(l...) != st(2, 8) || vec.Least(st(math.MaxInt, 1)) != st(math.MaxInt, 1) || vec.Least(st(1, 1), st(math.MinInt, math.MaxInt)) != st(math.MinInt, math.MaxInt) {
		t.Error("Least")
	}
	if !slices.Equal(l, []api.Stamp{st(3, 0), st(2, 9), st(2, 8), st(4, -1)}) {
		t.Error("changed")
	}
}

// P20.3.
func TestNeverBack(t *testing.T) {
	r := rand.New(rand.NewSource(20))
	v := made(t, 3)
	for range 2000 {
		stable, mark := v.Stable(), v.Mark()
		v.Reach(r.Intn(4)-1, st(r.Intn(500), r.Intn(3)))
		v.Floor(r.Intn(4)-1, st(r.Intn(500), r.Intn(3)))
		if hlc.Compare(v.Stable(), stable) < 0 || hlc.Compare(v.Mark(), mark) < 0 {
			t.Fatal("back")
		}
		if v.Stable() != vec.Least(v.Known(0), v.Known(1), v.Known(2)) {
			t.Fatal(v.Stable())
		}
	}
	var none *vec.Vec
	if none.Reach(0, st(1, 0)) || none.Floor(0, st(1, 0)) || none.Known(0) != st(0, 0) || none.Stable() != st(0, 0) || none.Mark() != st(0, 0) {
		t.Error("nil")
	}
}
