package era_test

import (
	"math"
	"math/big"
	"testing"

	"meridian/api"
	"meridian/era"
)

const (
	firstDay = -719162
	lastDay  = 2932896
)

// P5.1: the example, a second too many, eras, and what errs.
func TestStamp(t *testing.T) {
	for _, c := range []struct {
		u    api.UTC
		want uint64
	}{
		{api.UTC{Day: 24143, Nano: 23296 * api.Second}, 0}, // 2036-02-07
		{api.UTC{Day: 24143, Nano: 23296*api.Second - 1}, 0xffffffff<<32 | 0xfffffffb},
		{api.UTC{Day: -25567}, 0},
		{api.UTC{Day: -25567, Nano: 1}, 4},
		{api.UTC{Day: -25567, Nano: api.Second / 2}, 1 << 31},
		{api.UTC{Day: -25568}, (1<<32 - 86400) << 32},
		{api.UTC{}, 2208988800 << 32},
		{api.UTC{Nano: api.DayNano - 1}, (2208988800+86399)<<32 | 0xfffffffb},
		{api.UTC{Nano: api.DayNano}, (2208988800+86399)<<32 | 0xfffffffb},
		{api.UTC{Nano: api.DayNano + api.Second - 1}, (2208988800+86399)<<32 | 0xfffffffb},
	} {
		if s, e := era.Stamp(c.u); s != c.want || e != api.OK {
			t.Errorf("%v: %x %d", c.u, s, e)
		}
	}
	for _, u := range []api.UTC{{Day: firstDay - 1}, {Day: lastDay + 1}, {Day: math.MaxInt}, {Day: math.MinInt}, {Nano: -1}, {Nano: 86401 * api.Second}, {Nano: math.MaxInt}, {Nano: math.MinInt}} {
		if s, e := era.Stamp(u); s != 0 || e != api.ErrArg {
			t.Error(u, s, e)
		}
	}
}

// slow is P5.2 by trying eras one by one.
func slow(s uint64, day int) (api.UTC, api.Errno) {
	from := (day + api.NtpEpoch) * 86400
	best, far := 0, math.MaxInt
	for k := -30; k <= 100; k++ {
		n := int(s>>32) + k*(1<<32)
		if d := max(n-from, from-n); d < far {
			best, far = n, d
		}
	}
	rest := best % 86400
	if rest < 0 {
		rest += 86400
	}
	u := api.UTC{Day: (best-rest)/86400 - api.NtpEpoch}
	if u.Day < firstDay || u.Day > lastDay {
		return api.UTC{}, api.ErrRange
	}
	x := new(big.Int).Mul(big.NewInt(int64(s&0xffffffff)), big.NewInt(api.Second))
	x.Add(x, big.NewInt(1<<32-1)).Rsh(x, 32)
	u.Nano = rest*api.Second + min(int(x.Int64()), api.Second-1)
	return u, api.OK
}

// P5.2: near days of all eras, ties, days that are none.
func TestNear(t *testing.T) {
	if u, e := era.Near(0, 24143); u != (api.UTC{Day: 24143, Nano: 23296 * api.Second}) || e != api.OK {
		t.Error(u, e)
	}
	for _, day := range []int{firstDay, firstDay + 1, firstDay + 30000, -25567, -25568, 0, 1, 20000, 24143, 24144, lastDay - 30000, lastDay - 1, lastDay} {
		from := uint64((day+api.NtpEpoch)*86400) & 0xffffffff
		for _, d := range []uint64{0, 1, 86399, 86400, 1<<31 - 1, 1 << 31, 1<<31 + 1, 1<<32 - 86400, 1<<32 - 1} {
			for _, low := range []uint64{0, 1, 4, 5, 1 << 31, 0xfffffffb, 0xfffffffc, 0xffffffff} {
				s := (from+d)<<32 | low
				got, e := era.Near(s, day)
				want, f := slow(s, day)
				if got != want || e != f {
					t.Errorf("%x %d: %v %d, not %v %d", s, day, got, e, want, f)
				}
			}
		}
	}
	for _, day := range []int{firstDay - 1, lastDay + 1, math.MinInt, math.MaxInt} {
		if u, e := era.Near(5, day); u != (api.UTC{}) || e != api.ErrArg {
			t.Error(day, u, e)
		}
	}
	if u, e := era.Near(uint64((lastDay+1+api.NtpEpoch)*86400&0xffffffff)<<32, lastDay); u != (api.UTC{}) || e != api.ErrRange {
		t.Error(u, e)
	}
}

// P5.3: there and back, within 68 times 365 days.
func TestThereAndBack(t *testing.T) {
	const far = 68 * 365
	for day := firstDay; day <= lastDay; day += 9973 {
		for _, nano := range []int{0, 1, 2, 999999999, 5*api.Second + 123456789, api.DayNano / 3, api.DayNano - 1} {
			u := api.UTC{Day: day, Nano: nano}
			s, e := era.Stamp(u)
			for _, d := range []int{-far, -1, 0, 1, far} {
				if day+d < firstDay || day+d > lastDay {
					continue
				}
				back, f := era.Near(s, day+d)
				if e != api.OK || f != api.OK || back != u {
					t.Fatal(u, d, back, e, f)
				}
			}
		}
	}
}
