package chain_test

import (
	"bytes"
	"math"
	"math/rand"
	"testing"

	"meridian/api"
	"meridian/chain"
	"meridian/hlc"
)

func st(milli, count int) api.Stamp { return api.Stamp{Milli: milli, Count: count} }

func ver(milli, count, origin int, value string) api.Version {
	return api.Version{Stamp: st(milli, count), Origin: origin, Value: []byte(value)}
}

func same(a, b api.Version) bool {
	return a.Stamp == b.Stamp && a.Origin == b.Origin && a.Gone == b.Gone && a.TTL == b.TTL && bytes.Equal(a.Value, b.Value)
}

func made(t *testing.T, l ...api.Version) *chain.Chain {
	t.Helper()
	c, e := chain.Of(l...)
	if e != api.OK {
		t.Fatal(e)
	}
	return c
}

// P15.1: what a version is.
func TestIs(t *testing.T) {
	for i, change := range []func(v *api.Version){
		func(v *api.Version) { v.Stamp.Milli = -1 }, func(v *api.Version) { v.Stamp.Milli = api.MaxMilli + 1 },
		func(v *api.Version) { v.Stamp.Count = -1 }, func(v *api.Version) { v.Stamp.Count = api.MaxCount + 1 },
		func(v *api.Version) { v.Origin = -1 }, func(v *api.Version) { v.Origin = api.MaxNodes },
		func(v *api.Version) { v.Value = make([]byte, api.MaxValue+1) },
		func(v *api.Version) { v.TTL = -1 }, func(v *api.Version) { v.TTL = api.MaxMilli + 1 },
		func(v *api.Version) { v.Gone = true }, func(v *api.Version) { v.Gone, v.Value, v.TTL = true, nil, 1 },
	} {
		v := ver(1, 2, 3, "x")
		change(&v)
		c := made(t)
		none, e := chain.Of(ver(1, 1, 1, "a"), v)
		if chain.Is(v) || c.Put(v) != api.ErrArg || none != nil || e != api.ErrArg || len(c.All()) != 0 {
			t.Error(i, e)
		}
	}
	for i, v := range []api.Version{{}, {Gone: true}, {Gone: true, Value: []byte{}}, {Stamp: st(api.MaxMilli, api.MaxCount), Origin: api.MaxNodes - 1, Value: make([]byte, api.MaxValue), TTL: api.MaxMilli}} {
		if !chain.Is(v) || made(t).Put(v) != api.OK {
			t.Error(i)
		}
	}
}

// P15.1: what is seen, of any numbers.
func TestSeen(t *testing.T) {
	for i, c := range []struct {
		v    api.Version
		t    api.Stamp
		want bool
	}{
		{api.Version{Stamp: st(5, 1)}, st(5, 0), false},
		{api.Version{Stamp: st(5, 1)}, st(5, 1), true},
		{api.Version{Stamp: st(5, 1)}, st(math.MaxInt, 0), true},
		{api.Version{Stamp: st(5, 1), Gone: true}, st(6, 0), false},
		{api.Version{Stamp: st(5, 1), TTL: 10}, st(14, 9), true},
		{api.Version{Stamp: st(5, 1), TTL: 10}, st(15, 0), false},
		{api.Version{Stamp: st(5, 1), TTL: 1}, st(5, api.MaxCount), true},
		{api.Version{Stamp: st(5, 1), TTL: -1}, st(5, 1), false},
		{api.Version{Stamp: st(math.MinInt, 0), TTL: math.MaxInt}, st(math.MaxInt, 0), false},
		{api.Version{Stamp: st(math.MinInt, 0), TTL: math.MaxInt}, st(-2, 0), true},
		{api.Version{Stamp: st(math.MinInt, 0), TTL: math.MaxInt}, st(-1, 0), false},
		{api.Version{Stamp: st(math.MinInt, 0), TTL: math.MinInt}, st(math.MaxInt, 0), false},
		{api.Version{Stamp: st(math.MinInt, 0)}, st(math.MaxInt, 0), true},
	} {
		if chain.Seen(c.v, c.t) != c.want {
			t.Error(i)
		}
	}
}

// P15.2, P15.3: the example; two of one stamp; what is there already.
func TestExample(t *testing.T) {
	a, b := ver(5, 0, 0, "a"), ver(7, 0, 0, "b")
	a.TTL = 10
	c := made(t, a, b)
	for _, at := range []api.Stamp{st(6, 0), st(6, 9)} {
		if p, ok := c.Get(at); string(p) != "a" || !ok {
			t.Error(at, string(p), ok)
		}
	}
	if c.Trim(st(7, 0)) != 1 || len(c.All()) != 1 {
		t.Error(c.All())
	}
	c = made(t, ver(5, 0, 3, "x"), ver(5, 0, 1, "y"))
	if p, _ := c.Get(st(5, 0)); string(p) != "x" {
		t.Error("the greatest origin of one stamp", string(p))
	}
	if c.Put(ver(5, 0, 1, "z")) != api.ErrHas || len(c.All()) != 2 {
		t.Error("there already")
	}
	if none, e := chain.Of(a, b, a); none != nil || e != api.ErrHas {
		t.Error(e)
	}
	if v, ok := c.At(st(4, api.MaxCount)); ok || !same(v, api.Version{}) {
		t.Error(v, ok)
	}
	if v, ok := c.At(st(math.MaxInt, -1)); !ok || !same(v, ver(5, 0, 3, "x")) {
		t.Error(v, ok)
	}
	if p, ok := c.Get(st(math.MinInt, 0)); ok || len(p) != 0 {
		t.Error(p)
	}
}

// P15.3: what goes is what nobody sees.
func TestTrim(t *testing.T) {
	gone := api.Version{Stamp: st(6, 0), Gone: true}
	short := ver(8, 0, 0, "short")
	short.TTL = 5
	all := []api.Version{ver(5, 0, 0, "a"), gone, short, ver(20, 0, 0, "z")}
	for _, x := range []struct {
		from api.Stamp
		want int
	}{{st(4, 9), 0}, {st(5, 0), 0}, {st(5, 9), 0}, {st(6, 0), 2}, {st(7, 9), 2}, {st(8, 0), 2}, {st(12, 9), 2}, {st(13, 0), 3}, {st(19, 9), 3}, {st(20, 0), 3}, {st(math.MaxInt, 0), 3}, {st(math.MinInt, 0), 0}, {st(-1, 5), 0}} {
		c := made(t, all...)
		if n := c.Trim(x.from); n != x.want || len(c.All()) != 4-n || c.Trim(x.from) != 0 {
			t.Error(x, n)
		}
	}
}

// P15.4: Get behind a Trim; any order.
func TestAnyOrder(t *testing.T) {
	r := rand.New(rand.NewSource(15))
	for range 500 {
		var l []api.Version
		for i := range r.Intn(12) {
			v := ver(r.Intn(8), r.Intn(2), i%api.MaxNodes, string(rune('a'+i)))
			switch r.Intn(3) {
			case 0:
				v.Value, v.Gone = nil, true
			case 1:
				v.TTL = r.Intn(6)
			}
			if _, e := chain.Of(append(l, v)...); e == api.OK {
				l = append(l, v)
			}
		}
		a := made(t, l...)
		r.Shuffle(len(l), func(i, j int) { l[i], l[j] = l[j], l[i] })
		b := made(t, l...)
		x, y := a.All(), b.All()
		for i := range x {
			if !same(x[i], y[i]) || i > 0 && hlc.Compare(x[i-1].Stamp, x[i].Stamp) > 0 {
				t.Fatal("another order", i)
			}
		}
		from := st(r.Intn(10), r.Intn(3))
		if n := b.Trim(from); n+len(b.All()) != len(x) {
			t.Fatal(n)
		}
		for milli := range 15 {
			for count := range 3 {
				at := st(milli, count)
				p, ok := a.Get(at)
				q, is := b.Get(at)
				if hlc.Compare(at, from) >= 0 && (ok != is || !bytes.Equal(p, q)) {
					t.Fatal(from, at, p, q)
				}
				var want api.Version
				for _, v := range x {
					if hlc.Compare(v.Stamp, at) <= 0 {
						want = v
					}
				}
				if v, _ := a.At(at); !same(v, want) {
					t.Fatal(at, v, want)
				}
			}
		}
	}
}

func TestNothingIsShared(t *testing.T) {
	v := ver(1, 0, 0, "abc")
	c := made(t, v)
	v.Value[0] = 'x'
	a, _ := c.At(st(1, 0))
	a.Value[0] = 'y'
	p, _ := c.Get(st(1, 0))
	p[0] = 'z'
	c.All()[0].Value[0] = 'w'
	if p, ok := c.Get(st(1, 0)); string(p) != "abc" || !ok {
		t.Error(string(p))
	}
	var none *chain.Chain
	if _, ok := none.At(st(1, 0)); ok || none.Put(v) != api.ErrArg || none.Trim(st(9, 0)) != 0 || len(none.All()) != 0 {
		t.Error("nil")
	}
	if _, ok := none.Get(st(9, 0)); ok {
		t.Error("nil")
	}
}
