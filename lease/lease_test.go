package lease_test

import (
	"math"
	"testing"

	"meridian/api"
	"meridian/lease"
)

func st(milli, count int) api.Stamp { return api.Stamp{Milli: milli, Count: count} }

func open(t *testing.T, l *lease.Leases, s api.Stamp, until, want int) {
	t.Helper()
	if id, e := l.Open(s, until); id != want || e != api.OK {
		t.Error(id, e)
	}
}

// P21.1: numbers, times, the example.
func TestOpenAndAt(t *testing.T) {
	l := lease.New()
	open(t, l, st(5, 0), 10, 0)
	if s, e := l.At(0, 9); s != st(5, 0) || e != api.OK {
		t.Error(s, e)
	}
	if s, e := l.At(0, 10); s != st(0, 0) || e != api.ErrOld {
		t.Error(s, e)
	}
	if l.Floor(st(7, 0)) != st(5, 0) || l.Len() != 1 {
		t.Error(l.Floor(st(7, 0)))
	}
	for _, id := range []int{1, -1, math.MinInt, math.MaxInt} {
		if s, e := l.At(id, 0); s != st(0, 0) || e != api.ErrNone || l.Renew(id, 0, 99) != api.ErrNone {
			t.Error(id, e)
		}
	}
	for _, s := range []api.Stamp{st(-1, 0), st(0, -1), st(api.MaxMilli+1, 0), st(0, api.MaxCount+1)} {
		if id, e := l.Open(s, 10); id != 0 || e != api.ErrArg {
			t.Error(s, e)
		}
	}
	for _, until := range []int{-1, math.MinInt} {
		if id, e := l.Open(st(1, 1), until); id != 0 || e != api.ErrArg {
			t.Error(e)
		}
	}
	open(t, l, st(0, 0), 0, 1)
	if _, e := l.At(1, -1); e != api.OK {
		t.Error(e)
	}
	if _, e := l.At(1, 0); e != api.ErrOld {
		t.Error(e)
	}
	open(t, l, st(9, 9), math.MaxInt, 2)
	if _, e := l.At(2, math.MaxInt); e != api.ErrOld {
		t.Error(e)
	}
}

func TestRenew(t *testing.T) {
	l := lease.New()
	open(t, l, st(5, 0), 10, 0)
	if l.Renew(0, 10, 99) != api.ErrOld || l.Renew(0, 9, 5) != api.OK || l.Renew(0, 9, math.MinInt) != api.OK {
		t.Error("Renew")
	}
	if _, e := l.At(0, 9); e != api.OK {
		t.Error("not shorter", e)
	}
	if _, e := l.At(0, 10); e != api.ErrOld || l.Renew(0, 9, 20) != api.OK {
		t.Error(e)
	}
	if s, e := l.At(0, 19); s != st(5, 0) || e != api.OK {
		t.Error(s, e)
	}
}

// P21.1: so many and no more; numbers are never used again.
func TestFull(t *testing.T) {
	l := lease.New()
	for i := range api.MaxLease {
		open(t, l, st(i, 0), 10, i)
	}
	if id, e := l.Open(st(1, 0), 10); id != 0 || e != api.ErrFull {
		t.Error(id, e)
	}
	if _, e := l.Open(st(-1, 0), 10); e != api.ErrArg {
		t.Error(e)
	}
	if l.Close(5, 5, -1, 99, 63) != 2 || l.Close() != 0 || l.Close(5) != 0 || l.Len() != api.MaxLease-2 {
		t.Error(l.Len())
	}
	open(t, l, st(1, 0), 10, api.MaxLease)
	if _, e := l.At(5, 0); e != api.ErrNone {
		t.Error(e)
	}
	if _, e := l.At(6, 0); e != api.OK {
		t.Error(e)
	}
}

// P21.2, P21.3.
func TestExpireAndFloor(t *testing.T) {
	l := lease.New()
	if l.Floor(st(-7, 3)) != st(-7, 3) {
		t.Error("none")
	}
	open(t, l, st(5, 1), 10, 0)
	open(t, l, st(4, 0), 20, 1)
	open(t, l, st(6, 0), 5, 2)
	if l.Floor(st(9, 0)) != st(4, 0) || l.Floor(st(4, 0)) != st(4, 0) || l.Floor(st(3, 9)) != st(3, 9) {
		t.Error("Floor")
	}
	if l.Expire(4) != 0 || l.Expire(10) != 2 || l.Expire(10) != 0 || l.Len() != 1 {
		t.Error("Expire", l.Len())
	}
	if _, e := l.At(0, 0); e != api.ErrNone {
		t.Error(e)
	}
	if l.Expire(math.MaxInt) != 1 || l.Floor(st(9, 0)) != st(9, 0) {
		t.Error("all")
	}
	open(t, l, st(5, 1), 10, 3)
	var none *lease.Leases
	id, e := none.Open(st(1, 0), 5)
	s, f := none.At(0, 0)
	if id != 0 || e != api.ErrArg || s != st(0, 0) || f != api.ErrArg || none.Renew(0, 0, 0) != api.ErrArg || none.Close(0) != 0 || none.Expire(9) != 0 || none.Floor(st(3, 3)) != st(3, 3) || none.Len() != 0 {
		t.Error("nil")
	}
}
