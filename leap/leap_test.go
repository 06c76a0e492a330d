package leap_test

import (
	"math"
	"slices"
	"strings"
	"testing"

	"meridian/api"
	"meridian/cal"
	"meridian/leap"
)

func day(s string) int {
	d, e := cal.Parse(s)
	if e != api.OK {
		panic(s)
	}
	n, _ := cal.Days(d)
	return n
}

const example = "2015-07-01 36\n2017-01-01 37\nexpires 2026-12-28\n"

func table() api.Table {
	return api.Table{Leaps: []api.Leap{{Day: day("2015-07-01"), Offset: 36}, {Day: day("2017-01-01"), Offset: 37}}, Expires: day("2026-12-28")}
}

func same(a, b api.Table) bool { return a.Expires == b.Expires && slices.Equal(a.Leaps, b.Leaps) }

// months has n leaps, each a month behind the one ahead, going up and down.
func months(n int) []api.Leap {
	var l []api.Leap
	for i := range n {
		d, _ := cal.Days(api.Date{Year: 1980 + i/12, Month: i%12 + 1, Day: 1})
		l = append(l, api.Leap{Day: d, Offset: 10 + i%2})
	}
	return l
}

// P3.1: what a table is.
func TestIs(t *testing.T) {
	if !leap.Is(table()) {
		t.Error("the example")
	}
	for i, change := range []func(t *api.Table){
		func(t *api.Table) { t.Leaps = nil },
		func(t *api.Table) { t.Leaps = []api.Leap{} },
		func(t *api.Table) { t.Leaps = months(101) },
		func(t *api.Table) { t.Leaps[1].Day = t.Leaps[0].Day },
		func(t *api.Table) { t.Leaps[0], t.Leaps[1] = t.Leaps[1], t.Leaps[0] },
		func(t *api.Table) { t.Leaps[1].Day++ },
		func(t *api.Table) { t.Leaps[1].Offset = 36 },
		func(t *api.Table) { t.Leaps[1].Offset = 38 },
		func(t *api.Table) { t.Leaps[1].Offset = 34 },
		func(t *api.Table) { t.Leaps[0].Offset, t.Leaps[1].Offset = -1, 0 },
		func(t *api.Table) { t.Leaps[0].Offset, t.Leaps[1].Offset = 1000, 1001 },
		func(t *api.Table) { t.Leaps[0].Offset, t.Leaps[1].Offset = math.MaxInt, math.MinInt },
		func(t *api.Table) { t.Leaps[0].Day = -719163 },
		func(t *api.Table) { t.Leaps[0].Day = math.MinInt },
		func(t *api.Table) { t.Leaps[1].Day = math.MaxInt },
		func(t *api.Table) { t.Expires = t.Leaps[1].Day },
		func(t *api.Table) { t.Expires = 2932897 },
		func(t *api.Table) { t.Expires = math.MaxInt },
		func(t *api.Table) { t.Expires = math.MinInt },
	} {
		x := table()
		change(&x)
		got, e := leap.Of(x.Expires, x.Leaps...)
		s, f := leap.Print(x)
		if leap.Is(x) || !same(got, api.Table{}) || e != api.ErrOrder || s != "" || f != api.ErrArg || leap.Offset(x, x.Expires) != 0 || leap.Length(x, x.Expires) != 86400 {
			t.Error(i)
		}
	}
	for i, change := range []func(t *api.Table){
		func(t *api.Table) { t.Leaps = months(100) },
		func(t *api.Table) { t.Leaps = t.Leaps[:1] },
		func(t *api.Table) { t.Leaps[0].Day++ },
		func(t *api.Table) { t.Leaps[1].Offset = 35 },
		func(t *api.Table) { t.Leaps[0].Offset, t.Leaps[1].Offset = 0, 1 },
		func(t *api.Table) { t.Leaps[0].Offset, t.Leaps[1].Offset = 1000, 999 },
		func(t *api.Table) { t.Leaps[0].Day = -719162 },
		func(t *api.Table) { t.Expires = t.Leaps[1].Day + 1 },
		func(t *api.Table) { t.Expires = 2932896 },
	} {
		x := table()
		change(&x)
		got, e := leap.Of(x.Expires, x.Leaps...)
		if !leap.Is(x) || !same(got, x) || e != api.OK {
			t.Error(i)
		}
	}
}

// P3.1: offsets and lengths, at the edges of each leap and of all numbers.
func TestOffsets(t *testing.T) {
	x := table()
	for _, c := range []struct{ day, offset, length int }{
		{day("2016-12-30"), 36, 86400}, {day("2016-12-31"), 36, 86401}, {day("2017-01-01"), 37, 86400},
		{day("2015-07-01"), 36, 86400}, {day("2015-06-30"), 36, 86400}, {day("2030-01-01"), 37, 86400},
		{math.MinInt, 36, 86400}, {math.MaxInt, 37, 86400}, {math.MaxInt - 1, 37, 86400},
	} {
		if o, l := leap.Offset(x, c.day), leap.Length(x, c.day); o != c.offset || l != c.length {
			t.Error(c, o, l)
		}
	}
	x.Leaps[1].Offset = 35
	if leap.Length(x, day("2016-12-31")) != 86399 {
		t.Error("a second less")
	}
}

// P3.2: texts that are tables.
func TestParse(t *testing.T) {
	for _, s := range []string{
		example,
		strings.TrimSuffix(example, "\n"),
		"# a remark\n\n" + example + "\n#\n\n# behind",
		"2015-07-01 36\n#x\n2017-01-01 37\n\nexpires 2026-12-28",
	} {
		if x, n, e := leap.Parse(s); !same(x, table()) || n != 0 || e != api.OK {
			t.Error(s, x, n, e)
		}
	}
	if x, _, e := leap.Parse("2017-01-15 0\nexpires 2017-01-16"); e != api.OK || x.Leaps[0] != (api.Leap{Day: day("2017-01-15"), Offset: 0}) {
		t.Error(x, e)
	}
	if _, _, e := leap.Parse("9999-12-30 36\nexpires 9999-12-31"); e != api.OK {
		t.Error("the last day but one", e)
	}
	long := example + "#" + strings.Repeat("x", 8192-1-len(example))
	if _, _, e := leap.Parse(long); e != api.OK {
		t.Error("8192 bytes", e)
	}
	if x, n, e := leap.Parse(long + "\n"); !same(x, api.Table{}) || n != 0 || e != api.ErrLong {
		t.Error("8193 bytes", n, e)
	}
}

// P3.2: each error, at its line.
func TestParseErrs(t *testing.T) {
	for _, c := range []struct {
		s    string
		line int
		e    api.Errno
	}{
		{"", 1, api.ErrShort},
		{"\n", 2, api.ErrShort},
		{"\n\n", 3, api.ErrShort},
		{"#", 2, api.ErrShort},
		{"2017-01-01 37", 2, api.ErrShort},
		{"2017-01-01 37\n", 2, api.ErrShort},
		{"2017-01-01 37\n\n", 3, api.ErrShort},
		{" ", 1, api.ErrSyntax},
		{"\n2017-01-01  37", 2, api.ErrSyntax},
		{"2017-01-01", 1, api.ErrSyntax},
		{"2017-01-01 ", 1, api.ErrSyntax},
		{"2017-01-01 037", 1, api.ErrSyntax},
		{"2017-01-01 00", 1, api.ErrSyntax},
		{"2017-01-01 -1", 1, api.ErrSyntax},
		{"2017-01-01 +1", 1, api.ErrSyntax},
		{"2017-01-01 3 ", 1, api.ErrSyntax},
		{"2017-01-01 99999999999999999999999x", 1, api.ErrSyntax},
		{"2017-02-29 37", 1, api.ErrSyntax},
		{"2017-01-01 37\r\n", 1, api.ErrSyntax},
		{"expires", 1, api.ErrSyntax},
		{"expires ", 1, api.ErrSyntax},
		{"expires 2017-02-29", 1, api.ErrSyntax},
		{"expires  2017-02-28", 1, api.ErrSyntax},
		{"Expires 2017-02-28", 1, api.ErrSyntax},
		{example + "2018-01-01 38", 4, api.ErrSyntax},
		{example + "#\n\nexpires 2026-12-28", 6, api.ErrSyntax},
		{example + "x", 4, api.ErrSyntax},
		{"x\n2017-01-01 1001", 1, api.ErrSyntax},
		{"2017-01-01 1001\nx", 1, api.ErrOrder},
		{"2017-01-01 99999999999999999999999999", 1, api.ErrOrder},
		{"2017-01-01 18446744073709551653", 1, api.ErrOrder},
		{"2015-07-01 36\n2015-07-01 37", 2, api.ErrOrder},
		{"2015-07-01 36\n2014-07-01 37", 2, api.ErrOrder},
		{"2015-07-01 36\n2016-07-02 37", 2, api.ErrOrder},
		{"2015-07-01 36\n2016-07-01 36", 2, api.ErrOrder},
		{"2015-07-01 36\n2016-07-01 38", 2, api.ErrOrder},
		{"expires 2026-12-28", 1, api.ErrOrder},
		{"2015-07-01 36\n#\nexpires 2015-07-01", 3, api.ErrOrder},
		{"9999-12-31 36\n\n", 1, api.ErrOrder},
	} {
		if x, n, e := leap.Parse(c.s); !same(x, api.Table{}) || n != c.line || e != c.e {
			t.Errorf("%q: %d %d", c.s, n, e)
		}
	}
	var many strings.Builder
	for _, l := range months(101) {
		s, _ := leap.Print(api.Table{Leaps: []api.Leap{l}, Expires: l.Day + 1})
		many.WriteString(s[:strings.IndexByte(s, '\n')+1])
	}
	if _, n, e := leap.Parse(many.String()); n != 101 || e != api.ErrOrder {
		t.Error(n, e)
	}
}

// P3.3: there and back; nothing kept, nothing shared.
func TestThereAndBack(t *testing.T) {
	for n := 1; n <= 100; n++ {
		x, e := leap.Of(day("2026-12-28"), months(n)...)
		s, f := leap.Print(x)
		back, _, g := leap.Parse(s)
		if e != api.OK || f != api.OK || g != api.OK || !same(x, back) {
			t.Fatal(n, e, f, g)
		}
	}
	if s, e := leap.Print(table()); s != example || e != api.OK {
		t.Error(s, e)
	}
	given := months(3)
	x, _ := leap.Of(day("2026-12-28"), given[:2]...)
	given[0].Offset = 99
	_ = append(x.Leaps, api.Leap{Day: 7})
	if x.Leaps[0].Offset != 10 || !slices.Equal(given[1:], months(3)[1:]) {
		t.Error("shared")
	}
}
