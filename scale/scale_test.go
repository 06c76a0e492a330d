package scale_test

import (
	"math"
	"math/big"
	"testing"

	"meridian/api"
	"meridian/leap"
	"meridian/scale"
)

func held(x *big.Int) int {
	if !x.IsInt64() {
		if x.Sign() < 0 {
			return api.MinNano
		}
		return api.MaxNano
	}
	return int(x.Int64())
}

func parse(t *testing.T, s string) api.Table {
	t.Helper()
	x, n, e := leap.Parse(s)
	if e != api.OK {
		t.Fatal(s, n, e)
	}
	return x
}

const usual = "2015-07-01 36\n2017-01-01 37\nexpires 2026-12-28\n"

var edges = []int{math.MinInt, math.MinInt + 1, math.MinInt / 2, -1 << 32, -3, -2, -1, 0, 1, 2, 3, 86400, 1 << 31, 1 << 32, 1<<62 - 1, 1 << 62, math.MaxInt - 1, math.MaxInt}

// P4.1: sums and products against numbers that have no end.
func TestAddAndMul(t *testing.T) {
	if scale.Add() != 0 {
		t.Error("nothing")
	}
	for _, a := range edges {
		if scale.Add(a) != a {
			t.Error(a)
		}
		for _, b := range edges {
			x, y := big.NewInt(int64(a)), big.NewInt(int64(b))
			if got, want := scale.Mul(a, b), held(new(big.Int).Mul(x, y)); got != want {
				t.Error("Mul", a, b, got, want)
			}
			if got, want := scale.Add(a, b), held(new(big.Int).Add(x, y)); got != want {
				t.Error("Add", a, b, got, want)
			}
		}
	}
	if scale.Add(math.MaxInt, 1, -1) != math.MaxInt-1 || scale.Add(math.MinInt, -5, 7) != math.MinInt+7 {
		t.Error("each sum is held")
	}
}

// P4.2: the example, the edges of a day, and what errs.
func TestTAI(t *testing.T) {
	x := parse(t, usual)
	day := 17166 // 2016-12-31
	if n, e := scale.TAI(x, api.UTC{Day: day, Nano: 86400 * api.Second}); n != 1483228836*api.Second || e != api.OK {
		t.Error(n, e)
	}
	for _, u := range []api.UTC{{Day: day, Nano: -1}, {Day: day, Nano: 86401 * api.Second}, {Day: day + 1, Nano: api.DayNano}, {Day: -719163}, {Day: 2932897}, {Day: math.MaxInt}, {Day: math.MinInt}, {Nano: math.MaxInt}, {Nano: math.MinInt}} {
		if n, e := scale.TAI(x, u); n != 0 || e != api.ErrArg {
			t.Error(u, n, e)
		}
	}
	if n, e := scale.TAI(api.Table{}, api.UTC{}); n != 0 || e != api.ErrArg {
		t.Error("no table", n, e)
	}
	if n, e := scale.TAI(x, api.UTC{Day: 2932896}); n != api.MaxNano || e != api.OK {
		t.Error("held above", n, e)
	}
	if n, e := scale.TAI(x, api.UTC{Day: -719162, Nano: 5}); n != api.MinNano+5+36*api.Second || e != api.OK {
		t.Error("held below", n, e)
	}
}

// P4.3: the way back; what errs.
func TestUTCErrs(t *testing.T) {
	x := parse(t, usual)
	if u, e := scale.UTC(api.Table{}, api.MaxNano); u != (api.UTC{}) || e != api.ErrArg {
		t.Error(u, e)
	}
	for _, n := range []int{api.MinNano, api.MaxNano} {
		if u, e := scale.UTC(x, n); u != (api.UTC{}) || e != api.ErrRange {
			t.Error(n, u, e)
		}
	}
	if u, e := scale.UTC(parse(t, "1972-01-01 0\nexpires 2026-12-28"), api.MinNano); u != (api.UTC{}) || e != api.ErrRange {
		t.Error(u, e)
	}
	// Behind the beginning that days are held at there is nothing for the first Offset's seconds.
	if u, e := scale.UTC(x, api.MinNano+36*api.Second-1); u != (api.UTC{}) || e != api.ErrRange {
		t.Error(u, e)
	}
	if u, e := scale.UTC(x, api.MinNano+36*api.Second); u != (api.UTC{Day: -106752}) || e != api.OK {
		t.Error(u, e)
	}
	if u, e := scale.UTC(x, api.MaxNano-1); e != api.OK || u.Day != 106751 {
		t.Error(u, e)
	}
}

// greatest looks for the day among many, by TAI alone.
func greatest(x api.Table, tai, from, to int) (api.UTC, bool) {
	for day := to; day >= from; day-- {
		rest := new(big.Int).Sub(big.NewInt(int64(tai)), big.NewInt(int64(scale.Mul(day, api.DayNano))))
		rest.Sub(rest, big.NewInt(int64(leap.Offset(x, day)*api.Second)))
		if !rest.IsInt64() {
			continue
		}
		u := api.UTC{Day: day, Nano: int(rest.Int64())}
		if n, e := scale.TAI(x, u); e == api.OK && n == tai {
			return u, true
		}
	}
	return api.UTC{}, false
}

// P4.3: of several the greatest day, also where beginnings are held.
func TestOfSeveralTheGreatest(t *testing.T) {
	for _, s := range []string{
		usual,
		"1677-01-01 36\nexpires 2026-12-28",
		"1677-08-01 500\n1677-09-01 501\n1677-10-01 500\nexpires 2026-12-28",
		"1677-07-15 7\n1677-08-01 6\n1677-09-01 5\nexpires 2026-12-28",
		"1677-07-15 1000\n1677-08-01 999\n1677-09-01 998\n1677-10-01 999\nexpires 2026-12-28",
	} {
		x := parse(t, s)
		for _, seconds := range []int{0, 1, 4, 5, 6, 7, 8, 36, 499, 500, 501, 997, 998, 999, 1000, 1001, 85224, 85260, 86398, 86399, 86400, 86401, 86405, 86406, 86407, 86900, 87398, 87399, 87400, 87401, 90000, 172800} {
			for _, d := range []int{-1, 0, 1} {
				tai := api.MinNano + seconds*api.Second + d
				if tai > 0 || tai == api.MinNano {
					continue
				}
				want, ok := greatest(x, tai, -106752-400, -106740)
				got, e := scale.UTC(x, tai)
				if ok != (e == api.OK) || got != want {
					t.Errorf("%q %d %d: %v %d, not %v %v", s, seconds, d, got, e, want, ok)
				}
			}
		}
	}
}

// P4.4.
func TestMilli(t *testing.T) {
	for _, c := range [][2]int{{0, 0}, {999999, 0}, {1000000, 1}, {-1, 0}, {api.MinNano, 0}, {1999999, 1}, {api.MaxNano, 9223372036854}, {5 * api.Second, 5000}} {
		if n := scale.Milli(c[0]); n != c[1] {
			t.Error(c, n)
		}
	}
}

// P4.5: UTC of TAI, at the edges of days, and no gap between them.
func TestThereAndBack(t *testing.T) {
	for _, s := range []string{
		usual,
		"1972-01-01 0\nexpires 2026-12-28",
		"1972-01-01 1000\n1972-02-01 999\n1972-03-01 998\n1972-04-01 999\n1972-05-01 1000\nexpires 1990-01-01",
	} {
		x := parse(t, s)
		for day := -106700; day < 106700; day += 1 + 37*((day+1000000)%5) {
			long := leap.Length(x, day) * api.Second
			for _, nano := range []int{0, 1, api.Second, api.DayNano / 2, long - api.Second, long - 1} {
				u := api.UTC{Day: day, Nano: nano}
				n, e := scale.TAI(x, u)
				back, f := scale.UTC(x, n)
				if e != api.OK || f != api.OK || back != u {
					t.Fatal(u, n, e, back, f)
				}
			}
		}
		for day := 600; day < 1000; day++ {
			end, _ := scale.TAI(x, api.UTC{Day: day, Nano: leap.Length(x, day)*api.Second - 1})
			next, _ := scale.TAI(x, api.UTC{Day: day + 1})
			if next != end+1 {
				t.Fatal("a gap behind", day)
			}
		}
	}
}
