package hlc_test

import (
	"cmp"
	"math"
	"math/rand"
	"slices"
	"testing"

	"meridian/api"
	"meridian/hlc"
)

func st(milli, count int) api.Stamp { return api.Stamp{Milli: milli, Count: count} }

func made(t *testing.T, bound int) *hlc.Clock {
	t.Helper()
	c, e := hlc.New(bound)
	if e != api.OK || c.Last() != st(bound, 0) || c.Bound() != bound {
		t.Fatal(e)
	}
	return c
}

var noStamps = []api.Stamp{st(-1, 0), st(0, -1), st(api.MaxMilli+1, 0), st(0, api.MaxCount+1), st(math.MinInt, math.MaxInt), st(math.MaxInt, math.MinInt)}

// P10.1: the example, and each error ahead of the next.
func TestSend(t *testing.T) {
	c := made(t, 5)
	if e := c.Raise(100); e != api.OK {
		t.Error(e)
	}
	if s, e := c.Send(3); s != st(5, 1) || e != api.OK {
		t.Error(s, e)
	}
	if e := c.Hear(7, st(9, 2)); e != api.OK || c.Last() != st(9, 2) {
		t.Error(e)
	}
	if s, e := c.Send(8); s != st(9, 3) || e != api.OK {
		t.Error(s, e)
	}
	if s, e := c.Send(9); s != st(9, 4) || e != api.OK {
		t.Error(s, e)
	}
	if s, e := c.Send(99); s != st(99, 0) || e != api.OK || c.Last() != s {
		t.Error(s, e)
	}
	for _, milli := range []int{100, 101, api.MaxMilli} {
		if s, e := c.Send(milli); s != st(0, 0) || e != api.ErrBehind || c.Last() != st(99, 0) {
			t.Error(milli, s, e)
		}
	}
	for _, milli := range []int{-1, api.MaxMilli + 1, math.MinInt, math.MaxInt} {
		if s, e := c.Send(milli); s != st(0, 0) || e != api.ErrArg || c.Last() != st(99, 0) {
			t.Error(milli, s, e)
		}
	}
	c.Raise(500)
	c.Hear(300, st(300, api.MaxCount-1))
	if s, e := c.Send(5); s != st(300, api.MaxCount) || e != api.OK {
		t.Error("the greatest count", s, e)
	}
	c, _ = hlc.New(0)
	c.Raise(100)
	c.Hear(300, st(300, api.MaxCount))
	if s, e := c.Send(5); s != st(0, 0) || e != api.ErrOverflow || c.Last() != st(300, api.MaxCount) {
		t.Error("overflow ahead of the bound", s, e)
	}
	if s, e := c.Send(301); s != st(0, 0) || e != api.ErrBehind {
		t.Error(s, e)
	}
	c = made(t, 0)
	if _, e := c.Send(0); e != api.ErrBehind {
		t.Error(e)
	}
	for _, bound := range []int{-1, api.MaxMilli + 1, math.MinInt} {
		if c, e := hlc.New(bound); c != nil || e != api.ErrArg {
			t.Error(bound, e)
		}
	}
	made(t, api.MaxMilli)
}

// P10.2.
func TestHearAndRaise(t *testing.T) {
	c := made(t, 10)
	for i, x := range []struct {
		milli int
		l     []api.Stamp
		want  api.Errno
		last  api.Stamp
	}{
		{0, nil, api.OK, st(10, 0)},
		{0, []api.Stamp{st(9, 9)}, api.OK, st(10, 0)},
		{-1, nil, api.ErrArg, st(10, 0)},
		{api.MaxMilli + 1, nil, api.ErrArg, st(10, 0)},
		{0, []api.Stamp{st(api.MaxDrift+1, 0)}, api.ErrDrift, st(10, 0)},
		{0, []api.Stamp{st(12, 0), st(api.MaxDrift+1, 0)}, api.ErrDrift, st(10, 0)},
		{0, []api.Stamp{st(api.MaxDrift+1, 0), st(0, -1)}, api.ErrArg, st(10, 0)},
		{0, []api.Stamp{st(12, 5), st(12, 6), st(12, 4)}, api.OK, st(12, 6)},
		{0, []api.Stamp{st(api.MaxDrift, 0)}, api.OK, st(api.MaxDrift, 0)},
		{api.MaxMilli, []api.Stamp{st(api.MaxMilli, api.MaxCount)}, api.OK, st(api.MaxMilli, api.MaxCount)},
	} {
		if e := c.Hear(x.milli, x.l...); e != x.want || c.Last() != x.last {
			t.Error(i, e, c.Last())
		}
	}
	for _, s := range noStamps {
		if e := c.Hear(0, s); e != api.ErrArg {
			t.Error(s, e)
		}
	}
	if c.Raise(9) != api.ErrArg || c.Raise(api.MaxMilli+1) != api.ErrArg || c.Raise(math.MinInt) != api.ErrArg || c.Bound() != 10 {
		t.Error("a bound that is none")
	}
	if c.Raise(10) != api.OK || c.Raise(11) != api.OK || c.Bound() != 11 || c.Raise(api.MaxMilli) != api.OK {
		t.Error("a bound")
	}
}

// P10.3.
func TestOrderAndPacks(t *testing.T) {
	edges := []int{math.MinInt, -1, 0, 1, 1 << 16, api.MaxMilli, math.MaxInt}
	for _, a := range edges {
		for _, b := range edges {
			for _, c := range edges {
				for _, d := range edges {
					want := cmp.Compare(a, c)
					if want == 0 {
						want = cmp.Compare(b, d)
					}
					if hlc.Compare(st(a, b), st(c, d)) != want {
						t.Fatal(a, b, c, d)
					}
				}
			}
		}
	}
	if hlc.Max() != st(0, 0) || hlc.Max(st(-5, -5)) != st(-5, -5) || hlc.Max(st(1, 2), st(2, 1), st(2, 0)) != st(2, 1) {
		t.Error("Max")
	}
	for _, s := range noStamps {
		if x, e := hlc.Pack(s); x != 0 || e != api.ErrArg {
			t.Error(s, x, e)
		}
	}
	if x, e := hlc.Pack(st(api.MaxMilli, api.MaxCount)); x != math.MaxUint64 || e != api.OK {
		t.Error(x, e)
	}
	if x, e := hlc.Pack(st(1, 2)); x != 0x10002 || e != api.OK || hlc.Unpack(x) != st(1, 2) {
		t.Error(x, e)
	}
	r := rand.New(rand.NewSource(10))
	for range 1000 {
		a, b := hlc.Unpack(r.Uint64()>>r.Intn(64)), hlc.Unpack(r.Uint64()>>r.Intn(64))
		x, e := hlc.Pack(a)
		y, f := hlc.Pack(b)
		if e != api.OK || f != api.OK || cmp.Compare(x, y) != hlc.Compare(a, b) || hlc.Unpack(x) != a {
			t.Fatal(a, b)
		}
	}
}

// P10.4: stamps rise, over lives too.
func TestStampsRise(t *testing.T) {
	r := rand.New(rand.NewSource(11))
	bound, last := 0, st(-1, 0)
	for range 50 {
		c := made(t, bound)
		for range 100 {
			milli := r.Intn(500)
			switch r.Intn(3) {
			case 0:
				s := st(r.Intn(500), r.Intn(9))
				if c.Hear(milli, s) == api.OK && c.Last().Milli < c.Bound() && hlc.Compare(s, last) > 0 {
					last = s
				}
			default:
				s, e := c.Send(milli)
				if e == api.ErrBehind {
					c.Raise(max(milli, c.Last().Milli) + r.Intn(20))
				} else if e != api.OK || hlc.Compare(s, last) <= 0 || s.Milli >= c.Bound() {
					t.Fatal(s, last, e)
				} else {
					last = s
				}
			}
		}
		bound = max(c.Bound(), c.Last().Milli+1)
	}
}

func TestNilAndKept(t *testing.T) {
	var c *hlc.Clock
	s, e := c.Send(0)
	if s != st(0, 0) || e != api.ErrArg || c.Hear(0) != api.ErrArg || c.Raise(0) != api.ErrArg || c.Last() != st(0, 0) || c.Bound() != 0 {
		t.Error("nil")
	}
	l := []api.Stamp{st(3, 0), st(1, 0)}
	hlc.Max(l...)
	made(t, 0).Hear(9, l...)
	if !slices.Equal(l, []api.Stamp{st(3, 0), st(1, 0)}) {
		t.Error("changed")
	}
}
