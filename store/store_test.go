package store_test

import (
	"bytes"
	"math"
	"math/rand"
	"slices"
	"strconv"
	"strings"
	"testing"

	"meridian/api"
	"meridian/chain"
	"meridian/disk"
	"meridian/frame"
	"meridian/hlc"
	"meridian/octet"
	"meridian/rec"
	"meridian/store"
	"meridian/wal"
)

func st(milli, count int) api.Stamp { return api.Stamp{Milli: milli, Count: count} }

func record(origin, seq int, key, value string, at api.Stamp) api.Record {
	return api.Record{Origin: origin, Seq: seq, Key: key, V: api.Version{Stamp: at, Origin: origin, Value: []byte(value)}}
}

func made(t *testing.T, room int) *disk.Disk {
	t.Helper()
	d, e := disk.New(room)
	ok(t, e)
	return d
}

func ok(t *testing.T, e api.Errno) {
	t.Helper()
	if e != api.OK {
		t.Fatal(e)
	}
}

func open(t *testing.T, d *disk.Disk) *store.Store {
	t.Helper()
	s, e := store.Open(d, "m", 0)
	ok(t, e)
	return s
}

func nums(n ...int) []byte {
	var w octet.Writer
	w.Nums(n...)
	return w.Out()
}

func list(t *testing.T, l ...api.Record) []byte {
	t.Helper()
	b, e := rec.List(l...)
	ok(t, e)
	return b
}

// tells is all that a store tells, at some stamps, as text.
func tells(s *store.Store) string {
	var out []string
	mark := s.Mark()
	out = append(out, "mark", strconv.Itoa(mark.Milli), strconv.Itoa(mark.Count))
	for o := range api.MaxNodes {
		seq, at := s.Applied(o)
		out = append(out, strconv.Itoa(seq), strconv.Itoa(at.Milli)+"."+strconv.Itoa(at.Count))
	}
	keys, n := s.Keys()
	out = append(out, "keys", strings.Join(keys, ","), strconv.Itoa(n))
	for milli := mark.Milli; milli < mark.Milli+80; milli += 7 {
		l, _ := s.Scan("", "", st(milli, 9), 1000)
		for _, p := range l {
			out = append(out, p.Key+"="+string(p.Value))
		}
		out = append(out, ";")
	}
	return strings.Join(out, " ")
}

func kept(s *store.Store) string {
	var out []string
	for _, r := range s.Kept(0, 1000) {
		b, _ := rec.Encode(r)
		out = append(out, string(b))
	}
	return strings.Join(out, "|")
}

// P16.1: what can't be handed in; the age's file; files that are nobody's.
func TestOpenErrs(t *testing.T) {
	d := made(t, 10000)
	for _, c := range []struct {
		d      *disk.Disk
		prefix string
		own    int
	}{{nil, "m", 0}, {d, "", 0}, {d, strings.Repeat("m", 21), 0}, {d, "m", -1}, {d, "m", api.MaxNodes}} {
		if s, e := store.Open(c.d, c.prefix, c.own); s != nil || e != api.ErrArg {
			t.Error(c, e)
		}
	}
	if _, e := store.Open(d, strings.Repeat("m", 20), api.MaxNodes-1); e != api.OK || len(d.Names()) != 0 {
		t.Error(e)
	}
	age := func(p []byte) []byte {
		b, _ := frame.Encode(p)
		return b
	}
	for i, b := range [][]byte{nil, {1}, age(nil), age([]byte{1, 1}), age([]byte{0x80, 0}), age(nums(1<<40 + 1)), append(age(nums(0)), 0)} {
		d := made(t, 10000)
		ok(t, d.Write("mage", b))
		ok(t, d.Write("mx", nil))
		if s, e := store.Open(d, "m", 0); s != nil || e != api.ErrForm || len(d.Names()) != 2 {
			t.Error(i, e, d.Names())
		}
	}
	d = made(t, 10000)
	ok(t, d.Write("mage", age(nums(0))))
	for _, name := range []string{"m0.x", "m0.", "m00.", "m1.00000001", "mage~", "m", "magex", "n", "bound", "M"} {
		ok(t, d.Write(name, []byte("x")))
	}
	e := d.Copy()
	open(t, d)
	if got := d.Names(); !slices.Equal(got, []string{"M", "bound", "m0.", "m0.x", "mage", "n"}) {
		t.Error(got)
	}
	e.Fuse(2)
	if s, err := store.Open(e, "m", 0); s != nil || err != api.ErrDead || !slices.Contains(e.Names(), "m1.00000001") || slices.Contains(e.Names(), "m00.") {
		t.Error("not by names", err, e.Names())
	}
}

// P16.1: entries that are none, or could not be.
func TestEntriesThatCouldNotBe(t *testing.T) {
	a, b := record(0, 1, "k", "a", st(5, 0)), record(0, 2, "k", "b", st(6, 0))
	put := func(l ...api.Record) []byte { return octet.Join([]byte{1}, list(t, l...)) }
	bad := b
	bad.V.Stamp = st(5, 0)
	for i, c := range []struct {
		entries [][]byte
		want    api.Errno
	}{
		{nil, api.OK},
		{[][]byte{put(a), put(b), nums(2, 7, 0)}, api.OK},
		{[][]byte{put(a, b)}, api.OK},
		{[][]byte{nil}, api.ErrForm},
		{[][]byte{{0}}, api.ErrForm},
		{[][]byte{{4}}, api.ErrForm},
		{[][]byte{put()}, api.ErrForm},
		{[][]byte{append(put(a), 0)}, api.ErrForm},
		{[][]byte{put(b)}, api.ErrForm},
		{[][]byte{put(a), put(a)}, api.ErrForm},
		{[][]byte{put(a, bad)}, api.ErrForm},
		{[][]byte{nums(2, 5, 0), put(a)}, api.ErrForm},
		{[][]byte{nums(2, 4, 9), put(a)}, api.OK},
		{[][]byte{nums(2, 0, 0)}, api.ErrForm},
		{[][]byte{nums(2, 5, 0), nums(2, 5, 0)}, api.ErrForm},
		{[][]byte{nums(2, 5, 0), nums(2, 4, 9)}, api.ErrForm},
		{[][]byte{nums(2, 5, 0, 0)}, api.ErrForm},
		{[][]byte{nums(2, 5)}, api.ErrForm},
		{[][]byte{nums(2, api.MaxMilli+1, 0)}, api.ErrForm},
		{[][]byte{nums(2, 5, api.MaxCount+1)}, api.ErrForm},
		{[][]byte{allOf{}.bytes(t)}, api.ErrForm},
		{[][]byte{put(record(0, 1, "k", "a", st(0, 0)))}, api.ErrForm},
	} {
		d := made(t, 100000)
		l, e := wal.Open(d, "m0.")
		ok(t, e)
		for _, p := range c.entries {
			_, e := l.Append(p)
			ok(t, e)
		}
		if s, e := store.Open(d, "m", 0); (s != nil) != (c.want == api.OK) || e != c.want {
			t.Error(i, e)
		}
	}
}

// allOf is an entry of all, part by part.
type allOf struct {
	mark    []int
	applied []int
	keys    []byte
	kept    []byte
	behind  []byte
}

func (a allOf) bytes(t *testing.T) []byte {
	if a.mark == nil {
		a.mark = []int{0, 0}
	}
	if a.applied == nil {
		a.applied = make([]int, 3*api.MaxNodes)
	}
	if a.keys == nil {
		a.keys = nums(0)
	}
	if a.kept == nil {
		a.kept = nums(0)
	}
	return octet.Join(nums(3), nums(a.mark...), nums(a.applied...), a.keys, a.kept, a.behind)
}

func rows(n int, l ...api.Record) []byte {
	var w octet.Writer
	w.Nums(n)
	for _, r := range l {
		b, _ := rec.Encode(r)
		w.Bytes(b)
	}
	return w.Out()
}

func keyRows(key string, rest []byte) []byte {
	var w octet.Writer
	w.Bytes([]byte(key))
	w.Raw(rest...)
	return w.Out()
}

// P16.1: an age above 0 and its first entry.
func TestAllsThatCouldNotBe(t *testing.T) {
	v := func(key string, seq, origin, milli int) api.Record {
		return record(origin, seq, key, "x", st(milli, 0))
	}
	three := []int{3, 30, 0, 0, 0, 0, 0, 0, 0, 0, 0, 0, 0, 0, 0}
	for i, c := range []struct {
		all  allOf
		want api.Errno
	}{
		{allOf{}, api.OK},
		{allOf{mark: []int{7, 8}, applied: three}, api.OK},
		{allOf{applied: three, kept: rows(2, v("k", 2, 0, 5), v("k", 3, 0, 6))}, api.OK},
		{allOf{applied: three, kept: rows(3, v("k", 1, 0, 5), v("k", 2, 0, 5), v("k", 3, 0, 6))}, api.OK},
		{allOf{applied: three, kept: rows(1, v("k", 2, 0, 5))}, api.ErrForm},
		{allOf{applied: three, kept: rows(2, v("k", 2, 0, 5), v("k", 2, 0, 6))}, api.ErrForm},
		{allOf{applied: three, kept: rows(2, v("k", 3, 0, 5), v("k", 4, 0, 6))}, api.ErrForm},
		{allOf{applied: three, kept: rows(1, v("k", 3, 1, 5))}, api.ErrForm},
		{allOf{applied: three, kept: rows(2, v("k", 3, 0, 5))}, api.ErrForm},
		{allOf{applied: three, kept: nums(1 << 62)}, api.ErrForm},
		{allOf{applied: three, kept: nums(1, 0)}, api.ErrForm},
		{allOf{behind: []byte{0}}, api.ErrForm},
		{allOf{mark: []int{api.MaxMilli + 1, 0}}, api.ErrForm},
		{allOf{mark: []int{0, api.MaxCount + 1}}, api.ErrForm},
		{allOf{applied: []int{1 << 40, 5, 0, 0, 0, 0, 0, 0, 0, 0, 0, 0, 0, 0, 0}}, api.OK},
		{allOf{applied: []int{1<<40 + 1, 5, 0, 0, 0, 0, 0, 0, 0, 0, 0, 0, 0, 0, 0}}, api.ErrForm},
		{allOf{applied: []int{0, 0, 0, 0, 0, 0, 0, 0, 0, 0, 0, 0, 5, api.MaxMilli + 1, 0}}, api.ErrForm},
		{allOf{applied: []int{0, 0, 0, 0, 0, 0, 0, 0, 0, 0, 0, 0, 5, 5, api.MaxCount + 1}}, api.ErrForm},
		{allOf{applied: []int{0, 0, 0}}, api.ErrForm},
		{allOf{keys: octet.Join(nums(1), keyRows("k", rows(2, v("k", 1, 0, 5), v("k", 1, 0, 6))))}, api.OK},
		{allOf{keys: octet.Join(nums(1), keyRows("k", rows(2, v("k", 1, 0, 5), v("k", 1, 1, 5))))}, api.OK},
		{allOf{keys: octet.Join(nums(1), keyRows("k", rows(2, v("k", 1, 0, 0), v("k", 1, 1, 0))))}, api.OK},
		{allOf{keys: octet.Join(nums(1), keyRows("k", rows(2, v("k", 1, 1, 5), v("k", 1, 0, 5))))}, api.ErrForm},
		{allOf{keys: octet.Join(nums(1), keyRows("k", rows(2, v("k", 1, 0, 5), v("k", 1, 0, 5))))}, api.ErrForm},
		{allOf{keys: octet.Join(nums(1), keyRows("k", rows(2, v("k", 1, 0, 6), v("k", 1, 0, 5))))}, api.ErrForm},
		{allOf{keys: octet.Join(nums(1), keyRows("k", rows(1, v("k", 2, 0, 5))))}, api.ErrForm},
		{allOf{keys: octet.Join(nums(1), keyRows("k", rows(1, v("l", 1, 0, 5))))}, api.ErrForm},
		{allOf{keys: octet.Join(nums(1), keyRows("k", rows(0)))}, api.ErrForm},
		{allOf{keys: octet.Join(nums(1), keyRows("", rows(1, v("k", 1, 0, 5))))}, api.ErrForm},
		{allOf{keys: octet.Join(nums(1), keyRows(strings.Repeat("k", 65), rows(1, v("k", 1, 0, 5))))}, api.ErrForm},
		{allOf{keys: octet.Join(nums(2), keyRows("k", rows(1, v("k", 1, 0, 5))), keyRows("l", rows(1, v("l", 1, 0, 5))))}, api.OK},
		{allOf{keys: octet.Join(nums(2), keyRows("l", rows(1, v("l", 1, 0, 5))), keyRows("k", rows(1, v("k", 1, 0, 5))))}, api.ErrForm},
		{allOf{keys: octet.Join(nums(2), keyRows("k", rows(1, v("k", 1, 0, 5))), keyRows("k", rows(1, v("k", 1, 0, 6))))}, api.ErrForm},
		{allOf{keys: nums(1 << 62)}, api.ErrForm},
	} {
		b := c.all.bytes(t)
		opens := func(want api.Errno, entries ...[]byte) {
			t.Helper()
			d := made(t, 100000)
			age, _ := frame.Encode(nums(9))
			ok(t, d.Write("mage", age))
			l, e := wal.Open(d, "m9.")
			ok(t, e)
			for _, p := range entries {
				_, e := l.Append(p)
				ok(t, e)
			}
			s, e := store.Open(d, "m", 0)
			if (s != nil) != (want == api.OK) || e != want {
				t.Error(i, e)
			}
			if age, n := s.Age(); s != nil && (age != 9 || n != len(entries)-1) {
				t.Error(i, age, n)
			}
		}
		opens(c.want, b)
		opens(api.ErrForm)
		opens(api.ErrForm, b, b)
		opens(api.ErrForm, nums(2, 5, 0), b)
		if c.want == api.OK {
			opens(api.ErrForm, b[:len(b)-1])
			opens(api.OK, b, nums(2, 50, 0))
		}
	}
}

// P16.2: errors in their order; what is laid.
func TestPut(t *testing.T) {
	d := made(t, 100000)
	s := open(t, d)
	a, b := record(0, 1, "k", "a", st(5, 0)), record(0, 2, "k", "b", st(6, 0))
	ok(t, s.Put())
	if len(d.Names()) != 0 {
		t.Error("something was done")
	}
	many := make([]api.Record, api.MaxQueue+1)
	bad := a
	bad.Key = ""
	for i, c := range []struct {
		l    []api.Record
		want api.Errno
	}{
		{many, api.ErrLong},
		{many[:api.MaxQueue], api.ErrArg},
		{[]api.Record{b, bad}, api.ErrArg},
		{[]api.Record{b}, api.ErrOrder},
		{[]api.Record{a, a}, api.ErrOrder},
		{[]api.Record{a, record(0, 2, "k", "b", st(5, 0))}, api.ErrOrder},
		{[]api.Record{a, record(0, 3, "k", "b", st(6, 0))}, api.ErrOrder},
		{[]api.Record{record(0, 1, "k", "b", st(0, 0))}, api.ErrOrder},
	} {
		if e := s.Put(c.l...); e != c.want || len(d.Names()) != 0 {
			t.Error(i, e)
		}
	}
	ok(t, s.Put(a, record(3, 1, "j", "c", st(2, 0)), b))
	if age, n := s.Age(); age != 0 || n != 1 {
		t.Error(age, n)
	}
	for o, want := range []int{2, 0, 0, 1, 0} {
		if seq, at := s.Applied(o); seq != want || o == 0 && at != st(6, 0) || o == 1 && at != st(0, 0) {
			t.Error(o, seq, at)
		}
	}
	for _, o := range []int{-1, api.MaxNodes, math.MinInt, math.MaxInt} {
		if seq, at := s.Applied(o); seq != 0 || at != st(0, 0) {
			t.Error(o, seq)
		}
	}
	if l := s.Kept(0, 9); len(l) != 2 || !rec.Same(l[0], a) || !rec.Same(l[1], b) {
		t.Error(l)
	}
	if p, e := d.Read("m0.00000001"); !bytes.Contains(p, octet.Join([]byte{1, 1}, list(t, a, record(3, 1, "j", "c", st(2, 0)), b))) || e != api.OK {
		t.Error(p, e)
	}
	ok(t, s.Put(record(0, 3, "x", "", st(7, 0))))
	if got, want := tells(open(t, d.Copy())), tells(s); got != want {
		t.Error(got, want)
	}
	d.Crash(0, 0)
	if got, want := tells(open(t, d)), tells(s); got != want {
		t.Error("it does not last", got, want)
	}
}

// P16.2, P16.5: an error of the disk, and the store is dead; how many things each call does there.
func TestDead(t *testing.T) {
	for _, x := range []struct {
		cost int
		act  func(s *store.Store) api.Errno
	}{
		{2, func(s *store.Store) api.Errno { return s.Put(record(0, 2, "k", "b", st(6, 0))) }},
		{2, func(s *store.Store) api.Errno { _, e := s.Trim(st(5, 5)); return e }},
		// Two files that are in the way; the log; the age's file; two files of the elder log.
		{2 + 2 + 4 + 2, func(s *store.Store) api.Errno { return s.Compact() }},
	} {
		act := x.act
		for n := range x.cost + 1 {
			d := made(t, 100000)
			s := open(t, d)
			first := record(0, 1, "k", strings.Repeat("a", api.MaxValue), st(5, 0))
			ok(t, s.Put(first))
			ok(t, s.Put(record(1, 1, "k", "a", st(5, 0))))
			for _, name := range []string{"m1.00000001", "m1.x", "mage~"} {
				ok(t, d.Write(name, []byte("in the way")))
			}
			if n == x.cost {
				d.Fuse(n)
				if e := act(s); e != api.OK || d.Sync("mage") != api.ErrDead {
					t.Error(n, e, "more or less is done")
				}
				continue
			}
			before, keeps := tells(s), kept(s)
			d.Fuse(n)
			if e := act(s); e != api.ErrDead {
				t.Error(n, e)
			}
			d.Fuse(-1)
			if _, e := s.Trim(st(-1, 0)); e != api.ErrDead || s.Put() != api.ErrDead || s.Put(api.Record{}) != api.ErrDead || s.Compact() != api.ErrDead {
				t.Error("not dead")
			}
			age, entries := s.Age()
			if tells(s) != before || kept(s) != keeps || age != 0 || entries != 2 {
				t.Error(n, "something is changed", age, entries)
			}
		}
	}
	d := made(t, 100)
	s := open(t, d)
	if e := s.Put(record(0, 1, "k", strings.Repeat("v", 200), st(5, 0))); e != api.ErrFull || s.Put() != api.ErrDead {
		t.Error(e)
	}
}

// P16.3: the example, what is too old, what lies between.
func TestGetAndScan(t *testing.T) {
	s := open(t, made(t, 100000))
	ok(t, s.Put(record(0, 1, "k", "a", st(5, 0)), record(0, 2, "l", "b", st(6, 0)), record(0, 3, "m", "c", st(7, 0)), record(1, 1, "k", "d", st(7, 1))))
	if p, found, e := s.Get("k", st(4, 9)); len(p) != 0 || found || e != api.OK {
		t.Error(p, found, e)
	}
	if p, found, e := s.Get("k", st(5, 0)); string(p) != "a" || !found || e != api.OK {
		t.Error(p, found, e)
	}
	if p, found, e := s.Get("none", st(5, 0)); len(p) != 0 || found || e != api.OK {
		t.Error(p, found, e)
	}
	for i, c := range []struct {
		from, to string
		at       api.Stamp
		most     int
		want     string
	}{
		{"", "", st(9, 0), 9, "k=d l=b m=c"}, {"", "", st(7, 0), 9, "k=a l=b m=c"}, {"", "", st(6, 0), 9, "k=a l=b"},
		{"l", "", st(9, 0), 9, "l=b m=c"}, {"ka", "m", st(9, 0), 9, "l=b"}, {"k", "k", st(9, 0), 9, ""}, {"z", "a", st(9, 0), 9, ""},
		{"", "", st(9, 0), 2, "k=d l=b"}, {"", "", st(9, 0), 0, ""}, {"", "", st(9, 0), math.MinInt, ""}, {"", "", st(9, 0), math.MaxInt, "k=d l=b m=c"},
		{"", "\x00", st(9, 0), 9, ""}, {"", "", st(4, 0), 9, ""},
	} {
		l, e := s.Scan(c.from, c.to, c.at, c.most)
		var out []string
		for _, p := range l {
			out = append(out, p.Key+"="+string(p.Value))
		}
		if got := strings.Join(out, " "); got != c.want || e != api.OK {
			t.Error(i, got, e)
		}
	}
	s.Trim(st(6, 0))
	for _, at := range []api.Stamp{st(5, 9), st(-1, 0), st(math.MinInt, 0)} {
		p, found, e := s.Get("k", at)
		l, f := s.Scan("", "", at, 0)
		if len(p) != 0 || found || e != api.ErrOld || len(l) != 0 || f != api.ErrOld {
			t.Error(at, e, f)
		}
	}
	if p, found, e := s.Get("k", st(6, 0)); string(p) != "a" || !found || e != api.OK {
		t.Error(p, e)
	}
}

// P16.4.
func TestTrim(t *testing.T) {
	d := made(t, 100000)
	s := open(t, d)
	gone := api.Record{Origin: 0, Seq: 4, Key: "l", V: api.Version{Stamp: st(8, 0), Gone: true}}
	ok(t, s.Put(record(0, 1, "k", "a", st(5, 0)), record(0, 2, "k", "b", st(6, 0)), record(0, 3, "l", "c", st(7, 0)), gone))
	for _, at := range []api.Stamp{st(-1, 0), st(0, -1), st(api.MaxMilli+1, 0), st(0, api.MaxCount+1)} {
		if n, e := s.Trim(at); n != 0 || e != api.ErrArg {
			t.Error(at, e)
		}
	}
	used := d.Used()
	if n, e := s.Trim(st(0, 0)); n != 0 || e != api.OK || d.Used() != used {
		t.Error(n, e)
	}
	if n, e := s.Trim(st(5, 5)); n != 0 || e != api.OK || s.Mark() != st(5, 5) || d.Used() == used {
		t.Error(n, e)
	}
	if n, e := s.Trim(st(8, 0)); n != 3 || e != api.OK {
		t.Error(n, e)
	}
	if keys, n := s.Keys(); !slices.Equal(keys, []string{"k"}) || n != 1 {
		t.Error(keys, n)
	}
	if e := s.Put(record(0, 5, "x", "y", st(8, 0))); e != api.ErrOrder {
		t.Error(e)
	}
	if e := s.Put(record(1, 1, "x", "y", st(8, 0))); e != api.ErrOrder {
		t.Error("not above the mark", e)
	}
	if age, n := s.Age(); age != 0 || n != 3 {
		t.Error(age, n)
	}
	if b, _ := d.Read("m0.00000001"); !bytes.Contains(b, []byte{3, 2, 8, 0}) {
		t.Error("the entry", b)
	}
	d.Crash(0, 0)
	if got, want := tells(open(t, d)), tells(s); got != want {
		t.Error(got, want)
	}
}

// P16.5: what is kept, forgotten, and written anew.
func TestKeptAndCompact(t *testing.T) {
	d := made(t, 1000000)
	s := open(t, d)
	for n := 1; n <= 10; n++ {
		ok(t, s.Put(record(0, n, "k"+strconv.Itoa(n%3), "v", st(n, 0)), record(1, n, "k", "w", st(n, 0))))
	}
	seqs := func(from, most int) string {
		var out []string
		for _, r := range s.Kept(from, most) {
			out = append(out, strconv.Itoa(r.Seq))
		}
		return strings.Join(out, " ")
	}
	for _, c := range []struct {
		from, most int
		want       string
	}{{1, 3, "1 2 3"}, {math.MinInt, 2, "1 2"}, {9, math.MaxInt, "9 10"}, {11, 5, ""}, {math.MaxInt, math.MaxInt, ""}, {3, 0, ""}, {3, -1, ""}} {
		if got := seqs(c.from, c.most); got != c.want {
			t.Error(c, got)
		}
	}
	for _, c := range []struct {
		upto int
		want string
	}{{math.MinInt, "1 2"}, {0, "1 2"}, {4, "5 6"}, {2, "5 6"}, {4, "5 6"}} {
		if s.Forget(c.upto); seqs(0, 2) != c.want {
			t.Error(c, seqs(0, 2))
		}
	}
	if n := len(open(t, d.Copy()).Kept(0, 99)); n != 10 {
		t.Error("nothing was written", n)
	}
	s.Trim(st(4, 0))
	before, keeps := tells(s), kept(s)
	ok(t, d.Write("m1.junk", nil))
	ok(t, s.Compact())
	if age, n := s.Age(); age != 1 || n != 0 || tells(s) != before || kept(s) != keeps {
		t.Error(age, n)
	}
	if !slices.Equal(d.Names(), []string{"m1.00000001", "mage"}) {
		t.Error(d.Names())
	}
	d.Crash(0, 0)
	s = open(t, d)
	if age, n := s.Age(); age != 1 || n != 0 || tells(s) != before || kept(s) != keeps {
		t.Error(age, n)
	}
	s.Forget(math.MaxInt)
	ok(t, s.Put(record(0, 11, "z", "v", st(11, 0))))
	ok(t, s.Compact())
	if got := seqs(0, 9); got != "11" {
		t.Error(got)
	}
	if age, n := open(t, d).Age(); age != 2 || n != 0 {
		t.Error(age, n)
	}
	if b, _ := d.Read("mage"); !bytes.Equal(b[8:9], []byte{2}) {
		t.Error(b)
	}
}

// P16.5: the bytes of an entry of all.
func TestAllEntry(t *testing.T) {
	d := made(t, 1000000)
	s := open(t, d)
	a, b := record(0, 1, "k", "a", st(5, 0)), record(1, 1, "j", "b", st(6, 1))
	ok(t, s.Put(a, b))
	s.Trim(st(3, 2))
	ok(t, s.Compact())
	b.Seq = 1
	want := allOf{mark: []int{3, 2}, applied: []int{1, 5, 0, 1, 6, 1, 0, 0, 0, 0, 0, 0, 0, 0, 0}, keys: octet.Join(nums(2), keyRows("j", rows(1, b)), keyRows("k", rows(1, a))), kept: rows(1, a)}.bytes(t)
	record, _ := frame.Encode(nums(1), want)
	if got, _ := d.Read("m1.00000001"); !bytes.Equal(got, record) {
		t.Errorf("%x, not %x", got, record)
	}
}

// P16.5: what is too long to be written anew, and an age that is the last.
func TestCompactErrLong(t *testing.T) {
	d := made(t, 10000000)
	s := open(t, d)
	value := strings.Repeat("v", api.MaxValue)
	for n := 1; n <= 130; n++ {
		ok(t, s.Put(record(0, n, "k"+strconv.Itoa(n), value, st(n, 0))))
	}
	names := d.Names()
	ok(t, d.Write("m1.x", nil))
	if e := s.Compact(); e != api.ErrLong || !slices.Contains(d.Names(), "m1.x") || len(d.Names()) != len(names)+1 {
		t.Error(e)
	}
	if age, n := s.Age(); age != 0 || n != 130 {
		t.Error(age, n)
	}
	s.Forget(100)
	ok(t, s.Compact())
	ok(t, s.Put(record(0, 131, "k", value, st(131, 0))))
	atTheLimit(t)

	d = made(t, 10000)
	b, _ := frame.Encode(nums(1 << 40))
	ok(t, d.Write("mage", b))
	l, _ := wal.Open(d, "m1099511627776.")
	l.Append(allOf{}.bytes(t))
	s = open(t, d)
	if e := s.Compact(); e != api.ErrLong {
		t.Error(e)
	}
	ok(t, s.Put(record(0, 1, "k", "v", st(1, 0))))
}

// P16.5, P16.6: no room for the log of the next age, or for the age's file: the store is dead, and all is there behind it.
func TestCompactFull(t *testing.T) {
	for _, less := range []int{1, 14, 15, 40} {
		d := made(t, 10000)
		s := open(t, d)
		ok(t, s.Put(record(0, 1, "k", "a", st(5, 0))))
		before, keeps := tells(s), kept(s)
		c := d.Copy()
		ok(t, open(t, c).Compact())
		need := c.Used() // the log of the next age, and the age's file
		ok(t, d.Write("filler", make([]byte, 10000-d.Used()-need+less)))
		if e := s.Compact(); e != api.ErrFull || s.Put() != api.ErrDead || tells(s) != before {
			t.Error(less, e)
		}
		ok(t, d.Remove("filler"))
		d.Crash(0, 0)
		if s = open(t, d); tells(s) != before || kept(s) != keeps {
			t.Error(less, tells(s))
		}
	}
}

// atTheLimit writes anew what an entry just has room for, and a byte more.
func atTheLimit(t *testing.T) {
	t.Helper()
	filled := func(last int) (*disk.Disk, *store.Store) {
		d := made(t, 10000000)
		s := open(t, d)
		for n := 1; n <= 250; n++ {
			ok(t, s.Put(record(0, n, "k"+strconv.Itoa(n), strings.Repeat("v", api.MaxValue), st(n, 0))))
		}
		ok(t, s.Put(record(0, 251, "z", strings.Repeat("v", last), st(251, 0))))
		s.Forget(251)
		return d, s
	}
	d, s := filled(200)
	ok(t, s.Compact())
	b, _ := d.Read("m1.00000001")
	last := 200 + api.MaxFrame - 10 - (len(b) - 13) // a record has 12 bytes more, and the entry's number
	if last > api.MaxValue {
		t.Fatal(last)
	}
	_, s = filled(last)
	if e := s.Compact(); e != api.OK {
		t.Error(e)
	}
	_, s = filled(last + 1)
	if e := s.Compact(); e != api.ErrLong || s.Put() != api.OK {
		t.Error(e)
	}
}

// P16.4: a key without a version is no more, till somebody writes it.
func TestKeysComeAgain(t *testing.T) {
	s := open(t, made(t, 100000))
	ok(t, s.Put(api.Record{Origin: 0, Seq: 1, Key: "k", V: api.Version{Stamp: st(5, 0), Gone: true}}))
	if n, e := s.Trim(st(6, 0)); n != 1 || e != api.OK {
		t.Error(n, e)
	}
	if keys, n := s.Keys(); len(keys) != 0 || n != 0 {
		t.Error(keys, n)
	}
	ok(t, s.Put(record(0, 2, "k", "again", st(7, 0))))
	l, e := s.Scan("", "", st(7, 0), 9)
	if keys, n := s.Keys(); !slices.Equal(keys, []string{"k"}) || n != 1 || len(l) != 1 || string(l[0].Value) != "again" || e != api.OK {
		t.Error(keys, n, l, e)
	}
}

// P16.1: an error of the log's Open.
func TestOpenDead(t *testing.T) {
	d := made(t, 100000)
	ok(t, open(t, d).Put(record(0, 1, "k", "a", st(5, 0))))
	d.Fuse(0)
	if s, e := store.Open(d, "m", 0); s != nil || e != api.ErrDead {
		t.Error(e)
	}
}

// P16.6: crashes, wherever the fuse burnt, in Compact and in an Open, too; beside it a store that no power fails.
func TestCrashes(t *testing.T) {
	r := rand.New(rand.NewSource(16))
	erred := 0
	for round := range 300 {
		d := made(t, 1<<20)
		s := open(t, d)
		milli := 0
		for range 8 {
			twin := open(t, d.Copy())
			last, maybe, least := tells(s), "", kept(s)
			d.Fuse(r.Intn(50))
			for range r.Intn(25) {
				act := someAct(r, s, &milli)
				e, f := act(s), act(twin)
				if f != api.OK {
					t.Fatal(round, f)
				}
				if e != api.OK {
					maybe = tells(twin)
					erred++
					break
				}
				last, least = tells(s), kept(s)
				if last != tells(twin) {
					t.Fatal(round, "twins differ")
				}
			}
			d.Crash(r.Intn(3000), 0)
			for range r.Intn(4) {
				d.Fuse(r.Intn(5))
				store.Open(d, "m", 0)
				d.Crash(r.Intn(100), byte(r.Intn(2)))
			}
			s = open(t, d)
			if got := tells(s); got != last && got != maybe {
				t.Fatal(round, got, "\n", last, "\n", maybe)
			}
			if !strings.Contains(kept(s), least) {
				t.Fatal(round, "kept", len(kept(s)), len(least))
			}
		}
	}
	if erred < 100 {
		t.Error("the fuse hardly ever burnt", erred)
	}
}

// someAct is something to do with a store like s, and with its twin.
func someAct(r *rand.Rand, s *store.Store, milli *int) func(s *store.Store) api.Errno {
	switch r.Intn(8) {
	case 0:
		at := st(max(*milli-r.Intn(9), 0), 0)
		return func(s *store.Store) api.Errno { _, e := s.Trim(at); return e }
	case 1:
		return func(s *store.Store) api.Errno { return s.Compact() }
	case 2:
		seq, _ := s.Applied(0)
		upto := seq - r.Intn(5)
		return func(s *store.Store) api.Errno { s.Forget(upto); return api.OK }
	}
	*milli++
	o := r.Intn(2)
	seq, _ := s.Applied(o)
	p := record(o, seq+1, "k"+strconv.Itoa(r.Intn(6)), strings.Repeat("v", r.Intn(200)), st(*milli, 0))
	return func(s *store.Store) api.Errno { return s.Put(p) }
}

// P16.7.
func TestNothingIsShared(t *testing.T) {
	d := made(t, 100000)
	s := open(t, d)
	p := record(0, 1, "k", "abc", st(5, 0))
	l := []api.Record{p, record(0, 2, "l", "x", st(6, 0))}
	ok(t, s.Put(l...))
	p.V.Value[0] = 'z'
	l[1].Key = "other"
	a, _, _ := s.Get("k", st(5, 0))
	a[1] = 'y'
	b, _ := s.Scan("", "", st(5, 0), 9)
	b[0].Value[2] = 'w'
	k := s.Kept(1, 1)
	k[0].V.Value[0] = 'q'
	_ = append(k, p)
	keys, _ := s.Keys()
	keys[0] = "q"
	if p, _, _ := s.Get("k", st(5, 0)); string(p) != "abc" || string(s.Kept(1, 1)[0].V.Value) != "abc" || len(s.Kept(0, 9)) != 2 {
		t.Error(string(p))
	}
	if keys, n := s.Keys(); !slices.Equal(keys, []string{"k", "l"}) || n != 2 {
		t.Error(keys)
	}
}

func TestNil(t *testing.T) {
	var s *store.Store
	_, found, e := s.Get("k", st(0, 0))
	l, f := s.Scan("", "", st(0, 0), 9)
	n, g := s.Trim(st(1, 0))
	if found || e != api.ErrArg || len(l) != 0 || f != api.ErrArg || n != 0 || g != api.ErrArg || s.Put() != api.ErrArg || s.Compact() != api.ErrArg {
		t.Error(e, f, g)
	}
	s.Forget(5)
	seq, at := s.Applied(0)
	age, m := s.Age()
	keys, k := s.Keys()
	if seq != 0 || at != st(0, 0) || age != 0 || m != 0 || len(keys) != 0 || k != 0 || len(s.Kept(0, 9)) != 0 || s.Mark() != st(0, 0) {
		t.Error("nil")
	}
	var zero store.Store
	if zero.Put(record(0, 1, "k", "v", st(1, 0))) == api.OK || hlc.Compare(zero.Mark(), st(0, 0)) != 0 {
		t.Error("one that was not opened")
	}
	if c, e := chain.Of(); e != api.OK || len(c.All()) != 0 {
		t.Error(e)
	}
}
