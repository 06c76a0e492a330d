package node_test

import (
	"bytes"
	"math"
	"slices"
	"strings"
	"testing"

	"meridian/api"
	"meridian/disk"
	"meridian/frame"
	"meridian/hlc"
	"meridian/leap"
	"meridian/node"
	"meridian/octet"
	"meridian/store"
	"meridian/wire"
)

const milli = 1000000 // nanoseconds

func st(m, c int) api.Stamp { return api.Stamp{Milli: m, Count: c} }

var zero api.Stamp

func table() api.Table {
	x, _, e := leap.Parse("2015-07-01 36\n2017-01-01 37\nexpires 2026-12-28\n")
	if e != api.OK {
		panic(e)
	}
	return x
}

func ok(t *testing.T, e api.Errno) {
	t.Helper()
	if e != api.OK {
		t.Fatal(e)
	}
}

func made(t *testing.T, room int) *disk.Disk {
	t.Helper()
	d, e := disk.New(room)
	ok(t, e)
	return d
}

func open(t *testing.T, id, places int, d *disk.Disk) *node.Node {
	t.Helper()
	n, e := node.Open(id, places, d, table(), 3, 0)
	ok(t, e)
	return n
}

func put(t *testing.T, n *node.Node, seen api.Stamp, key, value string) api.Stamp {
	t.Helper()
	s, e := n.Put(seen, key, []byte(value), 0)
	ok(t, e)
	return s
}

// words is what messages say.
func words(t *testing.T, l []api.Msg) []wire.Word {
	t.Helper()
	var out []wire.Word
	for _, m := range l {
		w, e := wire.Decode(m.Data)
		ok(t, e)
		out = append(out, w)
	}
	return out
}

// say is a message of a word.
func say(t *testing.T, from, to int, w wire.Word) api.Msg {
	t.Helper()
	b, e := wire.Encode(w)
	ok(t, e)
	return api.Msg{From: from, To: to, Data: b}
}

func record(origin, seq int, key, value string, at api.Stamp) api.Record {
	return api.Record{Origin: origin, Seq: seq, Key: key, V: api.Version{Stamp: at, Origin: origin, Value: []byte(value)}}
}

// deliver gives all messages, and those that answer them, till there is none.
func deliver(nodes []*node.Node, l []api.Msg) {
	for len(l) > 0 {
		m := l[0]
		l = append(l[1:], nodes[m.To].Hear(m)...)
	}
}

func framed(n ...int) []byte {
	var w octet.Writer
	w.Nums(n...)
	b, _ := frame.Encode(w.Out())
	return b
}

// The example; a nil Node and one that was never opened.
func TestExample(t *testing.T) {
	n := open(t, 0, 1, made(t, 100000))
	s := put(t, n, zero, "k", "a")
	if s != st(0, 1) && s != st(0, 0) {
		t.Error(s)
	}
	n.Tick(milli)
	id, at, e := n.Snap(s, 9)
	if id != 0 || hlc.Compare(at, s) <= 0 || e != api.OK || at != n.Stable() {
		t.Error(id, at, e)
	}
	if p, found, e := n.Get(0, "k"); string(p) != "a" || !found || e != api.OK {
		t.Error(string(p), found, e)
	}
	if n.Milli() != 1 || n.Left() != 0 || n.Down() || n.Store() == nil {
		t.Error(n.Milli(), n.Left())
	}
}

func TestNil(t *testing.T) {
	for _, n := range []*node.Node{nil, {}} {
		_, a := n.Put(zero, "k", nil, 0)
		_, b := n.Del(zero, "k")
		_, _, c := n.Snap(zero, 1)
		_, _, d := n.Get(0, "k")
		_, e := n.Scan(0, "", "", 1)
		if a != api.ErrArg || b != api.ErrArg || c != api.ErrArg || d != api.ErrArg || e != api.ErrArg {
			t.Error(a, b, c, d, e)
		}
		if n.Close(0) != 0 || n.Hear(api.Msg{}) != nil || n.Tick(1) != nil || n.Milli() != 0 || n.Stable() != zero || n.Store() != nil || !n.Down() || n.Left() != 0 {
			t.Error("nothing")
		}
	}
}

// P23.1: what can't be handed in; files that are none.
func TestOpenErrs(t *testing.T) {
	d := made(t, 1000)
	for i, c := range []struct {
		id, places     int
		d              *disk.Disk
		t              api.Table
		servers, count int
	}{
		{0, 0, d, table(), 1, 0}, {0, api.MaxNodes + 1, d, table(), 1, 0}, {-1, 3, d, table(), 1, 0}, {3, 3, d, table(), 1, 0}, {0, 1, nil, table(), 1, 0},
		{0, 1, d, api.Table{}, 1, 0}, {0, 1, d, table(), 0, 0}, {0, 1, d, table(), api.MaxServer + 1, 0}, {0, 1, d, table(), 1, -1}, {math.MinInt, math.MaxInt, d, table(), 1, 0},
	} {
		if n, e := node.Open(c.id, c.places, c.d, c.t, c.servers, c.count); n != nil || e != api.ErrArg {
			t.Error(i, e)
		}
	}
	for i, b := range [][]byte{nil, {1}, framed(), framed(1, 2), framed(api.MaxMilli + 1), append(framed(1), 0)} {
		d := made(t, 1000)
		ok(t, d.Write("bound", b))
		if n, e := node.Open(0, 1, d, table(), 1, 0); n != nil || e != api.ErrForm {
			t.Error(i, e)
		}
	}
	x := made(t, 1000)
	ok(t, x.Write("mage", nil))
	if n, e := node.Open(0, 1, x, table(), 1, 0); n != nil || e != api.ErrForm {
		t.Error("chapter 16's error", e)
	}
	ok(t, d.Write("mx", nil))
	d.Fuse(0)
	if n, e := node.Open(0, 1, d, table(), 1, 0); n != nil || e != api.ErrDead {
		t.Error(e)
	}
	for id := range api.MaxNodes {
		n := open(t, id, api.MaxNodes, made(t, 1000))
		if n.Down() || n.Left() != 0 || n.Milli() != 0 || n.Stable() != zero {
			t.Error(id)
		}
	}
}

// P23.1, P23.2: the bound, its file, and stamps over lives.
func TestBound(t *testing.T) {
	d := made(t, 100000)
	ok(t, d.Write("bound~", []byte("left over")))
	n := open(t, 0, 1, d)
	if s := put(t, n, zero, "k", "a"); s != st(0, 1) {
		t.Error(s)
	}
	if b, _ := d.Read("bound"); !bytes.Equal(b, framed(api.Reserve)) || slices.Contains(d.Names(), "bound~") {
		t.Error(b, d.Names())
	}
	n.Tick(999 * milli)
	if b, _ := d.Read("bound"); !bytes.Equal(b, framed(api.Reserve)) {
		t.Error(b)
	}
	n.Tick(milli)
	if b, _ := d.Read("bound"); !bytes.Equal(b, framed(2*api.Reserve)) {
		t.Error(b)
	}
	last := put(t, n, zero, "k", "b")
	if last != st(1000, 1) {
		t.Error(last)
	}
	d.Crash(0, 0)
	n = open(t, 0, 1, d)
	if s := put(t, n, zero, "k", "c"); s != st(2000, 1) {
		t.Error("a new life begins with the bound", s)
	}
	if b, _ := d.Read("bound"); !bytes.Equal(b, framed(3*api.Reserve)) {
		t.Error(b)
	}
	s := put(t, n, st(50000, 7), "k", "d")
	if b, _ := d.Read("bound"); s != st(50000, 8) || !bytes.Equal(b, framed(51000)) {
		t.Error(s, b)
	}
	d = made(t, 100000)
	ok(t, d.Write("bound", framed(api.MaxMilli)))
	n = open(t, 0, 1, d)
	if s, e := n.Put(zero, "k", nil, 0); s != zero || e != api.ErrOverflow || n.Down() {
		t.Error(s, e)
	}
	d = made(t, 100000)
	ok(t, d.Write("bound", framed(api.MaxMilli-5)))
	n = open(t, 0, 1, d)
	if s, e := n.Put(zero, "k", nil, 0); s != st(api.MaxMilli-5, 1) || e != api.OK {
		t.Error(s, e)
	}
	if b, _ := d.Read("bound"); !bytes.Equal(b, framed(api.MaxMilli)) {
		t.Error(b)
	}
}

// P23.1: what a disk has: stamps heard, what is kept and what others have.
func TestOpenHas(t *testing.T) {
	d := made(t, 100000)
	s, e := store.Open(d, "m", 1)
	ok(t, e)
	ok(t, s.Put(record(1, 1, "k", "a", st(5, 0)), record(1, 2, "k", "b", st(6, 0)), record(0, 1, "k", "c", st(900000, 7)), record(2, 1, "j", "x", st(4, 4))))
	n := open(t, 1, 3, d.Copy())
	if n.Left() != 2 || n.Stable() != st(4, 4) {
		t.Error(n.Left(), n.Stable())
	}
	if x := put(t, n, zero, "k", "d"); x != st(900000, 8) {
		t.Error(x)
	}
	s.Forget(1)
	ok(t, s.Compact())
	n = open(t, 1, 3, d.Copy())
	if n.Left() != 1 {
		t.Error(n.Left())
	}
	w := words(t, n.Tick(0))
	if len(w) != 4 || w[0].Kind != wire.Records || w[0].Seq != 2 || w[1].Kind != wire.Records || w[2].Kind != wire.Beat || w[3].Kind != wire.Beat {
		t.Error(w)
	}
	if x := words(t, n.Hear(say(t, 0, 1, wire.Word{Kind: wire.Records, Origin: 0, Seq: 5, Records: []api.Record{record(0, 5, "k", "v", st(9, 9))}}))); len(x) != 1 || x[0].Kind != wire.Ack || x[0].Seq != 1 {
		t.Error("an In has what is applied", x)
	}
	s.Forget(2)
	ok(t, s.Compact())
	if n = open(t, 1, 3, d.Copy()); n.Left() != 0 {
		t.Error(n.Left())
	}
	if _, _, e := n.Get(0, "k"); e != api.ErrNone {
		t.Error("no lease", e)
	}
}

// P23.2: errors in their order.
func TestPutErrs(t *testing.T) {
	n := open(t, 0, 2, made(t, 1000000))
	for i, c := range []struct {
		seen  api.Stamp
		key   string
		value int
		ttl   int
		want  api.Errno
	}{
		{st(-1, 0), "k", 0, 0, api.ErrArg}, {st(0, api.MaxCount+1), "k", 0, 0, api.ErrArg},
		{zero, "", 0, 0, api.ErrArg}, {zero, strings.Repeat("k", 65), 0, 0, api.ErrArg}, {zero, "k", 1025, 0, api.ErrArg}, {zero, "k", 0, -1, api.ErrArg}, {zero, "k", 0, api.MaxMilli + 1, api.ErrArg},
		{st(api.MaxDrift+1, 0), "", 0, 0, api.ErrArg},
		{st(api.MaxDrift+1, 0), "k", 0, 0, api.ErrDrift},
		{st(api.MaxDrift, 0), "k", 1024, api.MaxMilli, api.OK},
	} {
		s, e := n.Put(c.seen, c.key, make([]byte, c.value), c.ttl)
		if e != c.want || e != api.OK && s != zero {
			t.Error(i, s, e)
		}
	}
	for n.Left() < api.MaxQueue {
		put(t, n, zero, "k", "v")
	}
	if s, e := n.Put(st(api.MaxMilli, 0), "k", nil, 0); s != zero || e != api.ErrFull || n.Left() != api.MaxQueue {
		t.Error(s, e)
	}
	if _, e := n.Put(zero, "", nil, 0); e != api.ErrArg {
		t.Error(e)
	}
	if _, e := n.Put(st(-1, 0), "k", nil, 0); e != api.ErrArg {
		t.Error(e)
	}
	if _, e := n.Del(zero, "k"); e != api.ErrFull {
		t.Error(e)
	}
	n = open(t, 0, 1, made(t, 10000000))
	for range api.MaxQueue + 9 {
		put(t, n, zero, "k", "v")
	}
}

// P23.2 with W3: a write that errs leaves no trace.
func TestPutOverflow(t *testing.T) {
	d := made(t, 100000)
	n := open(t, 0, 1, d)
	put(t, n, zero, "k", "a")
	if s, e := n.Put(st(0, api.MaxCount), "k", nil, 0); s != zero || e != api.ErrOverflow || n.Down() {
		t.Error(s, e)
	}
	if s, e := n.Del(st(0, api.MaxCount), "k"); s != zero || e != api.ErrOverflow {
		t.Error(s, e)
	}
	if s := put(t, n, zero, "k", "b"); s != st(0, 2) {
		t.Error("something is changed", s)
	}
	n.Tick(milli)
	if s := put(t, n, st(1, 5), "k", "c"); s != st(1, 6) {
		t.Error(s)
	}
}

// P23.2: an error of the disk, wherever the fuse burns.
func TestDown(t *testing.T) {
	for fuse := range 6 {
		for _, full := range []bool{false, true} {
			d := made(t, 100000)
			n := open(t, 0, 2, d)
			ok(t, d.Write("filler", nil))
			d.Fuse(fuse)
			want := api.ErrDead
			if full {
				d.Fuse(-1)
				ok(t, d.Write("filler", make([]byte, 100000-30*min(fuse, 1))))
				want = api.ErrFull
			}
			s, e := n.Put(zero, "k", []byte("a long value, that is longer than what is free"), 0)
			if !full && fuse >= 5 {
				if e != api.OK || n.Down() {
					t.Error(fuse, e)
				}
				continue
			}
			if s != zero || e != want || !n.Down() {
				t.Error(fuse, full, s, e)
			}
			d.Fuse(-1)
			_, a := n.Put(st(-1, 0), "", nil, 0)
			_, b := n.Del(zero)
			_, _, c := n.Snap(zero, -1)
			_, _, f := n.Get(-5, "k")
			_, g := n.Scan(-5, "", "", 1)
			if a != api.ErrDead || b != api.ErrDead || c != api.ErrDead || f != api.ErrDead || g != api.ErrDead {
				t.Error(a, b, c, f, g)
			}
			if len(n.Tick(5*milli)) != 0 || n.Milli() != 0 || len(n.Hear(say(t, 1, 0, wire.Word{Kind: wire.Records, Origin: 1, Seq: 1, Records: []api.Record{record(1, 1, "k", "v", st(1, 0))}}))) != 0 {
				t.Error("a node that is down")
			}
			if n.Store() == nil || n.Left() != 0 || n.Close(0) != 0 {
				t.Error("what does not err")
			}
		}
	}
}

// P23.2: Del, key by key.
func TestDel(t *testing.T) {
	n := open(t, 0, 2, made(t, 1000000))
	a := put(t, n, zero, "a", "1")
	put(t, n, zero, "b", "2")
	many := strings.Split("abcdefghijklmnopq", "")
	for i, keys := range [][]string{nil, many, {"a", ""}, {"a", strings.Repeat("k", 65)}, {"a", "b", "a"}, {"a", "a"}} {
		if s, e := n.Del(zero, keys...); s != zero || e != api.ErrArg || n.Left() != 2 {
			t.Error(i, s, e)
		}
	}
	if s, e := n.Del(st(-1, 0), "a"); s != zero || e != api.ErrArg {
		t.Error(s, e)
	}
	if s, e := n.Del(st(api.MaxDrift+1, 0), "a"); s != zero || e != api.ErrDrift {
		t.Error(s, e)
	}
	if _, e := open(t, 0, 1, made(t, 9999)).Del(zero, strings.Repeat("k", 64)); e != api.OK {
		t.Error("a long key", e)
	}
	s, e := n.Del(a, many[:16]...)
	if s != st(0, a.Count+17) || e != api.OK || n.Left() != 18 {
		t.Error(s, e, n.Left())
	}
	n.Tick(0)
	if p, found, _ := n.Store().Get("a", a); string(p) != "1" || !found {
		t.Error("an elder stamp", p)
	}
	if _, found, _ := n.Store().Get("a", s); found {
		t.Error("not gone")
	}
	for n.Left() < api.MaxQueue-1 {
		put(t, n, zero, "k", "v")
	}
	last, _ := n.Store().Applied(0)
	s, e = n.Del(zero, "x", "y", "z")
	seq, at := n.Store().Applied(0)
	if e != api.ErrFull || s != at || seq != last+1 || s == zero {
		t.Error("the last stamp that was given", s, e)
	}
}

// P23.3: snapshots.
func TestSnap(t *testing.T) {
	n := open(t, 0, 1, made(t, 1000000))
	s := put(t, n, zero, "k", "a")
	for _, c := range []struct {
		seen  api.Stamp
		milli int
		want  api.Errno
	}{{st(-1, 0), 1, api.ErrArg}, {zero, -1, api.ErrArg}, {zero, api.MaxMilli + 1, api.ErrArg}, {st(9, 9), -1, api.ErrArg}, {st(9, 9), 1, api.ErrBehind}, {zero, api.MaxMilli, api.OK}, {s, 0, api.OK}} {
		id, at, e := n.Snap(c.seen, c.milli)
		if e != c.want || e != api.OK && (id != 0 || at != zero) || e == api.OK && at != s {
			t.Error(c, id, at, e)
		}
	}
	if _, _, e := n.Get(1, "k"); e != api.ErrOld {
		t.Error(e)
	}
	if p, found, e := n.Get(0, "k"); string(p) != "a" || !found || e != api.OK {
		t.Error(p, e)
	}
	put(t, n, zero, "k", "b")
	put(t, n, zero, "l", "c")
	if l, e := n.Scan(0, "", "", 9); len(l) != 1 || string(l[0].Value) != "a" || e != api.OK {
		t.Error(l, e)
	}
	id, _, e := n.Snap(zero, 5)
	if l, f := n.Scan(id, "k", "", 1); id != 2 || len(l) != 1 || string(l[0].Value) != "b" || e != api.OK || f != api.OK {
		t.Error(l, e, f)
	}
	if l, e := n.Scan(id, "l", "m", 9); len(l) != 1 || l[0].Key != "l" || e != api.OK {
		t.Error(l, e)
	}
	n.Tick(4 * milli)
	if _, _, e := n.Get(id, "none"); e != api.OK {
		t.Error(e)
	}
	n.Tick(milli)
	if _, found, e := n.Get(id, "k"); found || e != api.ErrNone {
		t.Error("it is over", e)
	}
	if l, e := n.Scan(id, "", "", 9); len(l) != 0 || e != api.ErrNone {
		t.Error(e)
	}
	if n.Close(0, 0, 77) != 1 || n.Close() != 0 {
		t.Error("Close")
	}
	if _, _, e := n.Get(0, "k"); e != api.ErrNone {
		t.Error(e)
	}
	for range api.MaxLease {
		_, _, e := n.Snap(zero, 9)
		ok(t, e)
	}
	if id, at, e := n.Snap(zero, 9); id != 0 || at != zero || e != api.ErrFull {
		t.Error(e)
	}
}

// P23.3: Stable below the store's mark.
func TestSnapBelowMark(t *testing.T) {
	d := made(t, 100000)
	s, e := store.Open(d, "m", 0)
	ok(t, e)
	ok(t, s.Put(record(0, 1, "k", "a", st(5, 0)), record(1, 1, "k", "a", st(9, 0))))
	_, e = s.Trim(st(7, 0))
	ok(t, e)
	n := open(t, 0, 2, d)
	if id, at, e := n.Snap(zero, 9); id != 0 || at != zero || e != api.ErrBehind {
		t.Error(at, e)
	}
	n.Tick(20 * milli)
	if _, at, e := n.Snap(zero, 9); at != st(9, 0) || e != api.OK {
		t.Error(at, e)
	}
}
