package wal_test

import (
	"bytes"
	"math"
	"math/rand"
	"slices"
	"strconv"
	"strings"
	"testing"

	"meridian/api"
	"meridian/disk"
	"meridian/frame"
	"meridian/octet"
	"meridian/wal"
)

func made(t *testing.T, room int) *disk.Disk {
	t.Helper()
	d, e := disk.New(room)
	ok(t, e)
	return d
}

func ok(t *testing.T, e api.Errno) {
	t.Helper()
	if e != api.OK {
		t.Fatal(e)
	}
}

func open(t *testing.T, d *disk.Disk) *wal.Log {
	t.Helper()
	l, e := wal.Open(d, "p")
	ok(t, e)
	return l
}

// record is the entry n as it stands in a segment.
func record(n int, p string) []byte {
	var w octet.Writer
	w.Nums(n)
	b, _ := frame.Encode(w.Out(), []byte(p))
	return b
}

func all(l *wal.Log) []string {
	var out []string
	for n := 1; ; n++ {
		p, e := l.Entry(n)
		if e != api.OK {
			return out
		}
		out = append(out, string(p))
	}
}

func next(t *testing.T, l *wal.Log, a, b int) {
	t.Helper()
	if n, s := l.Next(); n != a || s != b {
		t.Error(n, s)
	}
}

// P13.1, P13.2: the example, and the bytes on the disk.
func TestExample(t *testing.T) {
	d := made(t, 10000)
	l := open(t, d)
	next(t, l, 1, 1)
	if len(l.Names()) != 0 || len(d.Names()) != 0 {
		t.Error("at first")
	}
	for i, p := range []string{"a", "b"} {
		if n, e := l.Append([]byte(p)); n != i+1 || e != api.OK {
			t.Error(n, e)
		}
	}
	next(t, l, 3, 1)
	ok(t, l.Sync())
	next(t, l, 3, 3)
	l.Append([]byte("c"))
	next(t, l, 4, 3)
	if b, _ := d.Read("p00000001"); !bytes.Equal(b, octet.Join(record(1, "a"), record(2, "b"), record(3, "c"))) {
		t.Error(b)
	}
	d.Crash(3, 0)
	l = open(t, d)
	next(t, l, 3, 3)
	if !slices.Equal(all(l), []string{"a", "b"}) || !slices.Equal(l.Names(), []string{"p00000001"}) {
		t.Error(all(l), l.Names())
	}
	if b, _ := d.Read("p00000001"); !bytes.Equal(b, octet.Join(record(1, "a"), record(2, "b"))) {
		t.Error("not cut", b)
	}
}

// P13.1: what can't be handed in.
func TestOpenErrs(t *testing.T) {
	d := made(t, 100)
	for _, prefix := range []string{"", strings.Repeat("p", 51)} {
		if l, e := wal.Open(d, prefix); l != nil || e != api.ErrArg {
			t.Error(e)
		}
	}
	if l, e := wal.Open(nil, "p"); l != nil || e != api.ErrArg {
		t.Error(e)
	}
	l, e := wal.Open(d, strings.Repeat("p", 50))
	ok(t, e)
	if n, e := l.Append(nil); n != 1 || e != api.OK || d.Names()[0] != strings.Repeat("p", 50)+"00000001" {
		t.Error(n, e)
	}
}

// P13.1: where the log ends, and what is done then.
func TestWhereItEnds(t *testing.T) {
	one, two, three, four := record(1, "a"), record(2, "b"), record(3, "c"), record(4, "d")
	bad := bytes.Clone(two)
	bad[9] ^= 1
	for i, c := range []struct {
		files []any
		names []string
		want  []string
		last  int // how many bytes the last segment has
		cost  int // how many things are done on the disk
	}{
		{[]any{"p00000001", octet.Join(one, two), "p00000003", three}, []string{"p00000001", "p00000003"}, []string{"a", "b", "c"}, len(three), 2},
		{[]any{"p00000001", octet.Join(one, bad), "p00000003", three}, []string{"p00000001"}, []string{"a"}, len(one), 3},
		{[]any{"p00000001", octet.Join(one, two[:5]), "p00000002", two, "p00000003", three}, []string{"p00000001"}, []string{"a"}, len(one), 4},
		{[]any{"p00000001", octet.Join(one, three)}, []string{"p00000001"}, []string{"a"}, len(one), 2},
		{[]any{"p00000001", octet.Join(one, one)}, []string{"p00000001"}, []string{"a"}, len(one), 2},
		{[]any{"p00000001", two[:3]}, nil, nil, 0, 1},
		{[]any{"p00000002", two}, nil, nil, 0, 1},
		{[]any{"p00000000", one, "p00000001", one}, nil, nil, 0, 2},
		{[]any{"p00000001", one, "p00000003", three, "p00000004", four}, []string{"p00000001"}, []string{"a"}, len(one), 3},
		{[]any{"p00000001", one, "p00000002", two[:4], "p00000003", three}, []string{"p00000001"}, []string{"a"}, len(one), 3},
		{[]any{"p00000001", one, "p00000002", three, "p00000003", three}, []string{"p00000001"}, []string{"a"}, len(one), 3},
		{[]any{"p00000001", one, "p00000002", []byte{}}, []string{"p00000001", "p00000002"}, []string{"a"}, 0, 2},
		{[]any{"p00000001", one, "p00000002", []byte{}, "p00000003", three}, []string{"p00000001", "p00000002"}, []string{"a"}, 0, 3},
		{[]any{"p00000001", one, "p0000002", two, "p000000002", two, "q00000002", two, "p0000000a", two, "p-0000002", two}, []string{"p00000001"}, []string{"a"}, len(one), 1},
	} {
		d := made(t, 100000)
		others := 0
		for k := 0; k < len(c.files); k += 2 {
			name := c.files[k].(string)
			ok(t, d.Write(name, c.files[k+1].([]byte)))
			if len(name) != 9 || name[0] != 'p' || strings.Contains(name, "a") || strings.Contains(name, "-") {
				others++
			}
		}
		e := d.Copy()
		l := open(t, d)
		if !slices.Equal(l.Names(), c.names) || !slices.Equal(all(l), c.want) || len(d.Names()) != len(c.names)+others {
			t.Error(i, l.Names(), all(l), d.Names())
		}
		if len(c.names) > 0 {
			if b, _ := d.Read(c.names[len(c.names)-1]); len(b) != c.last {
				t.Error(i, len(b))
			}
		}
		next(t, l, len(c.want)+1, len(c.want)+1)
		before := d.Copy()
		d.Crash(0, 0)
		for _, name := range l.Names() {
			a, _ := before.Read(name)
			if b, _ := d.Read(name); !bytes.Equal(a, b) {
				t.Error(i, "does not last")
			}
		}
		e.Fuse(c.cost)
		if _, err := wal.Open(e, "p"); err != api.OK || e.Sync("x") != api.ErrDead {
			t.Error(i, "more or less was done", err)
		}
		for fuse := range c.cost {
			e := before.Copy()
			for k := 0; k < len(c.files); k += 2 {
				e.Remove(c.files[k].(string))
				ok(t, e.Write(c.files[k].(string), c.files[k+1].([]byte)))
			}
			e.Fuse(fuse)
			if l, err := wal.Open(e, "p"); l != nil || err != api.ErrDead {
				t.Error(i, fuse, err)
			}
			e.Fuse(-1)
			if l := open(t, e); !slices.Equal(all(l), c.want) {
				t.Error(i, fuse, all(l))
			}
		}
	}
}

// P13.1: what is behind goes first, the last one ahead.
func TestTheLastGoesFirst(t *testing.T) {
	d := made(t, 10000)
	for n := range 5 {
		ok(t, d.Write("p0000000"+strconv.Itoa(n+2), nil))
	}
	d.Fuse(2)
	if _, e := wal.Open(d, "p"); e != api.ErrDead || !slices.Equal(d.Names(), []string{"p00000002", "p00000003", "p00000004"}) {
		t.Error(e, d.Names())
	}
}

// P13.2: how long an entry may be; segments; a full disk and a dead one.
func TestAppend(t *testing.T) {
	d := made(t, 1<<20)
	l := open(t, d)
	if n, e := l.Append(make([]byte, api.MaxFrame-9)); n != 0 || e != api.ErrLong || len(d.Names()) != 0 {
		t.Error(n, e)
	}
	if n, e := l.Append(make([]byte, api.MaxFrame-10)); n != 1 || e != api.OK {
		t.Error(n, e)
	}
	d = made(t, 100000)
	l = open(t, d)
	l.Append(make([]byte, api.SegBytes-14)) // a record of 1023 bytes
	l.Append(nil)
	if !slices.Equal(l.Names(), []string{"p00000001"}) {
		t.Error(l.Names())
	}
	next(t, l, 3, 1)
	l.Append([]byte("third"))
	next(t, l, 4, 3)
	if !slices.Equal(l.Names(), []string{"p00000001", "p00000003"}) || !slices.Equal(d.Names(), l.Names()) {
		t.Error(l.Names())
	}
	d.Crash(0, 0)
	if l := open(t, d); len(all(l)) != 2 || !slices.Equal(l.Names(), []string{"p00000001", "p00000003"}) {
		t.Error("what was ahead of a segment lasts", all(l), l.Names())
	} else if n, e := l.Append([]byte("3")); n != 3 || e != api.OK || len(l.Names()) != 2 {
		t.Error("an empty segment goes on", n, e)
	}
}

// P13.2: a segment of just so many bytes is full.
func TestSegBytes(t *testing.T) {
	for _, less := range []int{0, 1} {
		l := open(t, made(t, 100000))
		l.Append(make([]byte, api.SegBytes-13-less))
		l.Append(nil)
		if len(l.Names()) != 2-less {
			t.Error(less, l.Names())
		}
	}
}

func TestFullAndDead(t *testing.T) {
	d := made(t, 60)
	l := open(t, d)
	l.Append([]byte("a"))
	if n, e := l.Append(make([]byte, 40)); n != 0 || e != api.ErrFull {
		t.Error(n, e)
	}
	next(t, l, 2, 1)
	if n, e := l.Append([]byte("b")); n != 2 || e != api.OK {
		t.Error(n, e)
	}
	d.Fuse(0)
	if n, e := l.Append(make([]byte, api.MaxFrame)); n != 0 || e != api.ErrLong {
		t.Error(n, e)
	}
	if n, e := l.Append([]byte("c")); n != 0 || e != api.ErrDead {
		t.Error(n, e)
	}
	d.Crash(0, 0)
	if n, e := l.Append(make([]byte, api.MaxFrame)); n != 0 || e != api.ErrDead || l.Sync() != api.ErrDead {
		t.Error("dead stays dead", n, e)
	}
	next(t, l, 3, 1)
	if !slices.Equal(all(l), []string{"a", "b"}) {
		t.Error(all(l))
	}
	d = made(t, 60)
	l = open(t, d)
	ok(t, l.Sync())
	l.Append([]byte("a"))
	d.Remove("p00000001")
	if l.Sync() != api.ErrNone || l.Sync() != api.ErrDead {
		t.Error("a file that is gone")
	}
}

// P13.3.
func TestEntry(t *testing.T) {
	l := open(t, made(t, 1000))
	p := []byte("abc")
	l.Append(p[:2])
	p[0] = 'x'
	a, _ := l.Entry(1)
	a[1] = 'y'
	if b, e := l.Entry(1); string(b) != "ab" || e != api.OK || string(p) != "xbc" {
		t.Error(string(b), e)
	}
	for _, n := range []int{0, -1, 2, math.MaxInt, math.MinInt} {
		if b, e := l.Entry(n); len(b) != 0 || e != api.ErrNone {
			t.Error(n, e)
		}
	}
}

// P13.4: crashes, wherever the fuse burnt, in an Open, too.
func TestCrashes(t *testing.T) {
	r := rand.New(rand.NewSource(13))
	for round := range 400 {
		d := made(t, 1<<20)
		var laid []string
		lasts := 0
		for range 6 {
			l := open(t, d)
			got := all(l)
			if len(got) < lasts || len(got) > len(laid) || !slices.Equal(got, laid[:len(got)]) {
				t.Fatal(round, len(got), lasts, len(laid))
			}
			laid, lasts = got, len(got)
			d.Fuse(r.Intn(60))
			for range r.Intn(40) {
				p := strings.Repeat(strconv.Itoa(r.Intn(9)), r.Intn(300))
				if _, e := l.Append([]byte(p)); e == api.OK {
					laid = append(laid, p)
				}
				if r.Intn(5) == 0 {
					l.Sync()
				}
				_, s := l.Next()
				lasts = max(lasts, s-1)
			}
			d.Crash(r.Intn(3000), byte(r.Intn(2)*7))
			for range r.Intn(3) {
				d.Fuse(r.Intn(4))
				wal.Open(d, "p")
				d.Crash(r.Intn(100), 0)
			}
		}
	}
}

// P13.5.
func TestNil(t *testing.T) {
	var l *wal.Log
	n, e := l.Append(nil)
	a, b := l.Next()
	if _, f := l.Entry(1); n != 0 || e != api.ErrArg || l.Sync() != api.ErrArg || f != api.ErrNone || a != 0 || b != 0 || len(l.Names()) != 0 {
		t.Error("nil")
	}
}
