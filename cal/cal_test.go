package cal_test

import (
	"math"
	"testing"
	"time"

	"meridian/api"
	"meridian/cal"
)

const (
	firstDay = -719162
	lastDay  = 2932896
)

func date(y, m, d int) api.Date { return api.Date{Year: y, Month: m, Day: d} }

// P2.1, P2.3: every day there is, against another calendar, there and back.
func TestEveryDay(t *testing.T) {
	at := time.Date(1, 1, 1, 0, 0, 0, 0, time.UTC)
	for day := firstDay; day <= lastDay; day++ {
		want := date(at.Year(), int(at.Month()), at.Day())
		got, e := cal.Date(day)
		back, f := cal.Days(want)
		if got != want || e != api.OK || back != day || f != api.OK || !cal.Is(got) {
			t.Fatal(day, got, e, back, f)
		}
		at = at.AddDate(0, 0, 1)
	}
}

func TestExamples(t *testing.T) {
	if n, e := cal.Days(date(2000, 3, 1)); n != 11017 || e != api.OK {
		t.Error(n, e)
	}
	if d, e := cal.Date(-1); d != date(1969, 12, 31) || e != api.OK {
		t.Error(d, e)
	}
	if d, e := cal.Date(0); d != date(1970, 1, 1) || e != api.OK {
		t.Error(d, e)
	}
}

// P2.1: what is no date, and counts that are of none.
func TestNoDates(t *testing.T) {
	for _, d := range []api.Date{
		{}, date(0, 1, 1), date(10000, 1, 1), date(-4, 2, 29), date(2001, 2, 29), date(1900, 2, 29), date(2000, 2, 30),
		date(2000, 0, 1), date(2000, 13, 1), date(2000, 1, 0), date(2000, 1, 32), date(2000, 4, 31), date(2000, 6, 31), date(2000, 9, 31), date(2000, 11, 31),
		date(math.MaxInt, 1, 1), date(math.MinInt, 1, 1), date(2000, math.MaxInt, 1), date(2000, math.MinInt, 1), date(2000, 1, math.MaxInt), date(2000, 1, math.MinInt),
	} {
		n, e := cal.Days(d)
		s, f := cal.Print(d)
		if cal.Is(d) || n != 0 || e != api.ErrArg || s != "" || f != api.ErrArg {
			t.Error(d, n, e, s, f)
		}
	}
	for _, n := range []int{firstDay - 1, lastDay + 1, math.MaxInt, math.MinInt} {
		if d, e := cal.Date(n); d != (api.Date{}) || e != api.ErrRange {
			t.Error(n, d, e)
		}
	}
}

// P2.2, P2.3: texts, and what is none.
func TestTexts(t *testing.T) {
	for day := firstDay; day <= lastDay; day += 97 {
		d, _ := cal.Date(day)
		s, e := cal.Print(d)
		back, f := cal.Parse(s)
		if len(s) != 10 || e != api.OK || back != d || f != api.OK {
			t.Fatal(day, s, e, back, f)
		}
	}
	if s, e := cal.Print(date(7, 8, 9)); s != "0007-08-09" || e != api.OK {
		t.Error(s, e)
	}
	for _, s := range []string{
		"", "2000-1-01", "2000-01-1", "02000-01-01", "2000-01-01 ", " 2000-01-01", "2000/01/01", "2000-01/01", "2000-01001", "2000001-01", "200/-01-01", "2000-1/-01", "2000-01-2/", "200:-01-01", "2000-0:-01", "2000-01-0:", "2000-01-32", "2001-02-29", "0000-01-01",
		"2000-00-01", "2000-01-00", "+200-01-01", "-200-01-01", "2000-+1-01", "2000-01-+1", "200a-01-01", "2000-0a-01", "2000-01-0a", "2000-01-0\x00", "20000101--", "\xff\xff\xff\xff-01-01",
	} {
		if d, e := cal.Parse(s); d != (api.Date{}) || e != api.ErrSyntax {
			t.Error(s, d, e)
		}
	}
}
