package node_test

import (
	"math"
	"math/rand"
	"slices"
	"strconv"
	"testing"

	"meridian/api"
	"meridian/disk"
	"meridian/hlc"
	"meridian/node"
	"meridian/store"
	"meridian/wire"
)

// P23.4: messages that are none for this place.
func TestHearNothing(t *testing.T) {
	row := []api.Record{record(1, 1, "k", "v", st(1, 0))}
	records := wire.Word{Kind: wire.Records, Origin: 1, Seq: 1, Records: row}
	beat := wire.Word{Kind: wire.Beat, Origin: 1, Stamp: st(5, 0), Floor: st(1, 0)}
	good := say(t, 1, 0, records)
	bad := say(t, 1, 0, records)
	bad.Data[9] ^= 1
	for i, m := range []api.Msg{
		{}, {From: 1, To: 0}, {From: 1, To: 0, Data: []byte("x")}, bad,
		say(t, 1, 2, records), say(t, 1, -1, records), say(t, 2, 0, records), say(t, 3, 0, records), say(t, -1, 0, records), say(t, 0, 0, records), say(t, math.MinInt, 0, records),
		say(t, 3, 0, wire.Word{Kind: wire.Records, Origin: 3, Seq: 1, Records: []api.Record{record(3, 1, "k", "v", st(1, 0))}}),
		say(t, 0, 0, wire.Word{Kind: wire.Records, Origin: 0, Seq: 1, Records: []api.Record{record(0, 1, "k", "v", st(1, 0))}}),
		say(t, 2, 0, beat), say(t, 1, 1, beat), say(t, 3, 0, wire.Word{Kind: wire.Beat, Origin: 3, Stamp: st(5, 0)}), say(t, 0, 0, wire.Word{Kind: wire.Beat, Stamp: st(5, 0)}),
		say(t, 3, 0, wire.Word{Kind: wire.Ack, Seq: 1}), say(t, 0, 0, wire.Word{Kind: wire.Ack, Seq: 1}), say(t, 1, 0, wire.Word{Kind: wire.Ack, Origin: 1, Seq: 1}), say(t, 1, 0, wire.Word{Kind: wire.Ack, Seq: 2}),
	} {
		n := open(t, 0, 3, made(t, 100000))
		put(t, n, zero, "own", "v")
		n.Tick(0)
		if l := n.Hear(m); len(l) != 0 || n.Left() != 1 || n.Down() {
			t.Error(i, l)
		}
		if seq, _ := n.Store().Applied(1); seq != 0 {
			t.Error(i, "applied")
		}
		// Of a place that is not known nothing goes on, whatever the two others say.
		n.Hear(say(t, 2, 0, wire.Word{Kind: wire.Beat, Origin: 2, Stamp: st(9, 0)}))
		if n.Stable() != zero {
			t.Error(i, n.Stable())
		}
		if len(n.Hear(good)) != 1 {
			t.Error(i, "a good one")
		}
	}
}

// P23.4: an Ack of somebody else's records; a Beat in another one's name.
func TestHearOthers(t *testing.T) {
	n := open(t, 0, 2, made(t, 100000))
	put(t, n, zero, "own", "v")
	n.Tick(0)
	n.Hear(say(t, 1, 0, wire.Word{Kind: wire.Ack, Origin: 1, Seq: 1}))
	if n.Left() != 1 {
		t.Error("an Ack of other records")
	}
	n.Hear(say(t, 1, 0, wire.Word{Kind: wire.Ack, Origin: 0, Seq: 1}))
	if n.Left() != 0 || len(n.Store().Kept(0, 9)) != 0 {
		t.Error("an Ack")
	}
	n = open(t, 0, 3, made(t, 100000))
	n.Tick(100 * milli)
	n.Hear(say(t, 1, 0, wire.Word{Kind: wire.Beat, Origin: 1, Stamp: st(3, 0)}))
	n.Hear(say(t, 2, 0, wire.Word{Kind: wire.Beat, Origin: 2, Stamp: st(4, 0)}))
	n.Hear(say(t, 1, 0, wire.Word{Kind: wire.Beat, Origin: 2, Stamp: st(8, 0)}))
	n.Hear(say(t, 2, 0, wire.Word{Kind: wire.Beat, Origin: 1, Stamp: st(9, 0)}))
	n.Hear(say(t, 2, 0, wire.Word{Kind: wire.Beat, Origin: 0, Stamp: st(9, 0)}))
	if n.Stable() != st(3, 0) {
		t.Error(n.Stable())
	}
	row := []api.Record{record(2, 1, "k", "v", st(7, 0))}
	if l := n.Hear(say(t, 1, 0, wire.Word{Kind: wire.Records, Origin: 2, Seq: 1, Records: row})); len(l) != 0 {
		t.Error(l)
	}
}

// P23.4: records, once each and in order; what is answered.
func TestHearRecords(t *testing.T) {
	d := made(t, 100000)
	n := open(t, 0, 2, d)
	row := func(seqs ...int) []api.Record {
		var l []api.Record
		for _, s := range seqs {
			l = append(l, record(1, s, "k", strconv.Itoa(s), st(s*10, 0)))
		}
		return l
	}
	hear := func(acked int, l ...api.Record) {
		t.Helper()
		got := n.Hear(say(t, 1, 0, wire.Word{Kind: wire.Records, Origin: 1, Seq: l[0].Seq, Records: l}))
		if acked < 0 {
			if len(got) != 0 {
				t.Error(got)
			}
			return
		}
		w := words(t, got)
		if len(w) != 1 || got[0].From != 0 || got[0].To != 1 || w[0].Kind != wire.Ack || w[0].Origin != 1 || w[0].Seq != acked {
			t.Error(w)
		}
		if seq, _ := n.Store().Applied(1); seq != acked {
			t.Error(seq, acked)
		}
	}
	hear(0, row(2, 3)...)
	hear(2, row(1, 2)...)
	hear(2, row(1, 2)...)
	hear(2, row(4)...)
	hear(4, row(2, 3, 4)...)
	if _, at := n.Store().Applied(1); at != st(40, 0) {
		t.Error(at)
	}
	// A stamp that is too far ahead: nothing is done.
	far := record(1, 5, "k", "x", st(n.Milli()+api.MaxDrift+1, 0))
	hear(-1, far)
	if seq, _ := n.Store().Applied(1); seq != 4 {
		t.Error(seq)
	}
	// A stamp that does not rise: the store refuses it, and nothing is sent.
	hear(-1, record(1, 5, "k", "x", st(40, 0)))
	if n.Down() {
		t.Error("down")
	}
	hear(5, record(1, 5, "k", "x", st(api.MaxDrift, 3)))
	if s := put(t, n, zero, "own", "v"); s != st(api.MaxDrift, 4) {
		t.Error("what was heard is above", s)
	}
	if n.Stable() != st(api.MaxDrift, 3) {
		t.Error(n.Stable())
	}
	d.Fuse(1)
	hear(-1, record(1, 6, "k", "x", st(api.MaxDrift, 9)))
	if !n.Down() {
		t.Error("not down")
	}
}

// P23.4: beats.
func TestHearBeats(t *testing.T) {
	n := open(t, 0, 2, made(t, 100000))
	n.Tick(100 * milli)
	beat := func(seq int, s, floor api.Stamp) api.Stamp {
		t.Helper()
		if l := n.Hear(say(t, 1, 0, wire.Word{Kind: wire.Beat, Origin: 1, Seq: seq, Stamp: s, Floor: floor})); len(l) != 0 {
			t.Error(l)
		}
		return n.Stable()
	}
	if beat(0, st(50, 0), zero) != st(50, 0) {
		t.Error(n.Stable())
	}
	if beat(1, st(60, 0), zero) != st(50, 0) {
		t.Error("records are not there", n.Stable())
	}
	if beat(0, st(40, 0), zero) != st(50, 0) {
		t.Error("back", n.Stable())
	}
	if beat(0, st(100+api.MaxDrift+1, 0), zero) != st(50, 0) {
		t.Error("too far ahead", n.Stable())
	}
	n.Hear(say(t, 1, 0, wire.Word{Kind: wire.Records, Origin: 1, Seq: 1, Records: []api.Record{record(1, 1, "k", "v", st(70, 0))}}))
	if n.Stable() != st(70, 0) || beat(0, st(80, 0), zero) != st(70, 0) || beat(1, st(90, 5), zero) != st(90, 5) {
		t.Error(n.Stable())
	}
	if s := put(t, n, zero, "k", "v"); s != st(100, 1) {
		t.Error(s)
	}
	beat(1, st(2000, 5), zero)
	if s := put(t, n, zero, "k", "v"); s != st(2000, 6) {
		t.Error("a beat was heard", s)
	}
	// A floor counts even when the stamp does not; the mark goes with both floors.
	beat(77, st(99999999, 0), st(65, 0))
	n.Tick(0)
	if n.Store().Mark() != st(65, 0) {
		t.Error(n.Store().Mark())
	}
}

// P23.5: what is sent, in order; time that is handed in.
func TestTick(t *testing.T) {
	n := open(t, 1, 4, made(t, 1000000))
	for _, c := range [][2]int{{-5, 0}, {math.MinInt, 0}, {milli - 1, 0}, {1, 1}, {1 << 40, 1 + 1<<40/milli}, {math.MaxInt, 1 + 2<<40/milli}} {
		if n.Tick(c[0]); n.Milli() != c[1] {
			t.Error(c, n.Milli())
		}
	}
	n = open(t, 1, 4, made(t, 1000000))
	for i := range 20 {
		put(t, n, zero, "k"+strconv.Itoa(i), "v")
	}
	kinds := func(l []api.Msg) string {
		out := ""
		for i, w := range words(t, l) {
			if l[i].From != 1 || w.Origin != 1 {
				t.Error(l[i])
			}
			out += strconv.Itoa(l[i].To) + ":" + strconv.Itoa(w.Kind) + "/" + strconv.Itoa(w.Seq) + "+" + strconv.Itoa(len(w.Records)) + " "
		}
		return out
	}
	for i, want := range []string{
		"0:1/1+8 2:1/1+8 3:1/1+8 0:3/20+0 2:3/20+0 3:3/20+0 ",
		"0:1/9+8 2:1/9+8 3:1/9+8 0:3/20+0 2:3/20+0 3:3/20+0 ",
		"0:1/17+4 2:1/17+4 3:1/17+4 0:3/20+0 2:3/20+0 3:3/20+0 ",
		"0:3/20+0 2:3/20+0 3:3/20+0 ",
	} {
		l := n.Tick(milli)
		if got := kinds(l); got != want {
			t.Error(i, got)
		}
		if i == 0 {
			w := words(t, l)
			if w[3].Stamp != st(1, 0) || w[3].Floor != zero || w[5].Stamp != st(1, 0) {
				t.Error(w[3])
			}
			l[3].Data[0] ^= 1
			if _, e := wire.Decode(l[4].Data); e != api.OK {
				t.Error("two messages share memory")
			}
		}
	}
	for _, c := range [][2]int{{0, 20}, {2, 20}, {3, 13}} {
		n.Hear(say(t, c[0], 1, wire.Word{Kind: wire.Ack, Origin: 1, Seq: c[1]}))
	}
	if n.Left() != 7 || len(n.Store().Kept(0, 99)) != 7 {
		t.Error(n.Left())
	}
	n.Hear(say(t, 3, 1, wire.Word{Kind: wire.Ack, Origin: 1, Seq: 21}))
	n.Hear(say(t, 3, 1, wire.Word{Kind: wire.Ack, Origin: 1, Seq: 12}))
	if n.Left() != 7 {
		t.Error(n.Left())
	}
	for i, want := range []string{"", "", "", "3:1/14+7 "} {
		if got := kinds(n.Tick(0)); got != want+"0:3/20+0 2:3/20+0 3:3/20+0 " {
			t.Error(i, got)
		}
	}
}

// P23.5: no stamp, no Beat.
func TestTickWithoutStamp(t *testing.T) {
	n := open(t, 0, 2, made(t, 100000))
	put(t, n, zero, "k", "v")
	n.Hear(say(t, 1, 0, wire.Word{Kind: wire.Beat, Origin: 1, Stamp: st(500, api.MaxCount)}))
	w := words(t, n.Tick(milli))
	if len(w) != 1 || w[0].Kind != wire.Records || n.Down() {
		t.Error(w)
	}
	if w := words(t, n.Tick(500*milli)); len(w) != 1 || w[0].Kind != wire.Beat || w[0].Stamp != st(501, 0) {
		t.Error(w)
	}
}

// P23.5, P23.7: floors and leases, the mark, and the store that is written anew.
func TestTickTidies(t *testing.T) {
	d := made(t, 1000000)
	n := open(t, 0, 1, d)
	a := put(t, n, zero, "k", "a")
	n.Tick(milli)
	id, at, e := n.Snap(a, 50)
	ok(t, e)
	b := put(t, n, zero, "k", "b")
	for range 10 {
		n.Tick(milli)
	}
	if p, found, e := n.Get(id, "k"); string(p) != "a" || !found || e != api.OK || n.Store().Mark() != at {
		t.Error("a snapshot that is held", p, e, n.Store().Mark(), at)
	}
	n.Tick(60 * milli)
	if hlc.Compare(n.Store().Mark(), b) <= 0 || n.Store().Mark() != n.Stable() {
		t.Error(n.Store().Mark())
	}
	if _, versions := n.Store().Keys(); versions != 1 {
		t.Error("nobody asks for it", versions)
	}
	for range 300 {
		put(t, n, zero, "k", "c")
		n.Tick(milli)
		age, entries := n.Store().Age()
		if entries > 64 {
			t.Fatal(age, entries)
		}
	}
	age, _ := n.Store().Age()
	if age < 8 || n.Down() || d.Used() > 5000 {
		t.Error(age, d.Used())
	}
	if len(n.Store().Kept(0, 99)) != 0 {
		t.Error("kept for nobody")
	}
}

// P23.5: the store is written anew behind more than 64 entries; if it can't be, all goes on.
func TestTickCompacts(t *testing.T) {
	n := open(t, 0, 2, made(t, 1000000))
	for range 64 {
		put(t, n, zero, "k", "v")
	}
	n.Tick(milli)
	if age, entries := n.Store().Age(); age != 0 || entries != 64 {
		t.Error(age, entries)
	}
	n.Hear(say(t, 1, 0, wire.Word{Kind: wire.Records, Origin: 1, Seq: 1, Records: []api.Record{record(1, 1, "k", "v", st(1, 0))}}))
	n.Tick(milli)
	if age, entries := n.Store().Age(); age != 1 || entries != 0 {
		t.Error(age, entries)
	}
	n = open(t, 0, 1, made(t, 10000000))
	for i := range 300 {
		put(t, n, zero, "k"+strconv.Itoa(i), string(make([]byte, api.MaxValue)))
	}
	for range 3 {
		n.Tick(milli)
	}
	if age, entries := n.Store().Age(); age != 0 || entries < 300 || n.Down() {
		t.Error("too long to be written anew", age, entries, n.Down())
	}
	put(t, n, zero, "k", "v")
}

// P23.5: an error of the disk within a Tick.
func TestTickDown(t *testing.T) {
	for fuse := range 20 {
		d := made(t, 1000000)
		n := open(t, 0, 1, d)
		for range 64 {
			put(t, n, zero, "k", "v")
		}
		d.Fuse(fuse)
		n.Tick(2000 * milli)
		d.Fuse(-1)
		age, _ := n.Store().Age()
		if n.Down() != (age == 0) {
			t.Error(fuse, n.Down(), age)
		}
		if n.Down() {
			d.Crash(0, 0)
			n = open(t, 0, 1, d)
			if seq, _ := n.Store().Applied(0); seq != 64 {
				t.Error(fuse, seq)
			}
		}
	}
	for fuse := range 3 { // the bound alone
		d := made(t, 100000)
		n := open(t, 0, 2, d)
		d.Fuse(fuse)
		if l := n.Tick(milli); len(l) != 0 || !n.Down() || n.Stable() != zero {
			t.Error("a stamp without a bound that lasts", fuse, l)
		}
	}
	for _, fuse := range []int{0, 1, 2, 3, 4} { // the bound, the mark
		d := made(t, 100000)
		n := open(t, 0, 2, d)
		put(t, n, zero, "k", "v")
		n.Hear(say(t, 1, 0, wire.Word{Kind: wire.Beat, Origin: 1, Stamp: st(500, 0), Floor: st(500, 0)}))
		n.Hear(say(t, 1, 0, wire.Word{Kind: wire.Records, Origin: 1, Seq: 1, Records: []api.Record{record(1, 1, "k", "v", st(501, 0))}}))
		d.Fuse(fuse)
		if l := n.Tick(2000 * milli); len(l) != 0 || !n.Down() {
			t.Error("a Tick that meets it tells nothing", fuse, l)
		}
	}
}

// P23.7: crashes anywhere: what was told is there, stamps rise.
func TestCrashes(t *testing.T) {
	r := rand.New(rand.NewSource(23))
	for round := range 60 {
		const places = 3
		var disks []*disk.Disk
		nodes := make([]*node.Node, places)
		counts := make([]int, places)
		for i := range places {
			disks = append(disks, made(t, 1<<20))
			nodes[i] = open(t, i, places, disks[i])
		}
		last := make([]api.Stamp, places)
		var under []api.Msg
		for range 400 {
			i := r.Intn(places)
			n := nodes[i]
			switch k := r.Intn(10); {
			case k < 3:
				s, e := n.Put(last[r.Intn(places)], "k"+strconv.Itoa(r.Intn(3)), []byte(strconv.Itoa(r.Int())), 0)
				if e == api.OK {
					if hlc.Compare(s, last[i]) <= 0 {
						t.Fatal(round, "stamps do not rise", s, last[i])
					}
					last[i] = s
				}
			case k < 6:
				by := r.Intn(400) * milli
				counts[i] += by
				under = append(under, n.Tick(by)...)
			case k < 9 && len(under) > 0:
				at := r.Intn(len(under))
				m := under[at]
				if r.Intn(4) > 0 {
					under = slices.Delete(under, at, at+1)
				}
				under = append(under, nodes[m.To].Hear(m)...)
			case k == 9:
				disks[i].Fuse(r.Intn(30))
			}
			for i, n := range nodes {
				if !n.Down() {
					continue
				}
				for {
					disks[i].Crash(r.Intn(500), 0)
					disks[i].Fuse(r.Intn(20) - 5)
					if again, e := node.Open(i, places, disks[i], table(), 1, counts[i]); e == api.OK {
						nodes[i] = again
						break
					}
				}
			}
		}
		for i := range nodes {
			disks[i].Fuse(-1)
			if nodes[i].Down() {
				disks[i].Crash(0, 0)
				n, e := node.Open(i, places, disks[i], table(), 1, counts[i])
				ok(t, e)
				nodes[i] = n
			}
		}
		most := slices.Max(counts)
		for range 100 {
			var l []api.Msg
			for i, n := range nodes {
				l = append(l, n.Tick(most-counts[i]+10*milli)...)
				counts[i] = most
			}
			deliver(nodes, l)
		}
		meet(t, nodes, last)
	}
}

// meet holds places that had all messages against one another.
func meet(t *testing.T, nodes []*node.Node, last []api.Stamp) {
	t.Helper()
	for i, n := range nodes {
		if n.Left() != 0 || hlc.Compare(n.Stable(), hlc.Max(last...)) <= 0 {
			t.Fatal(i, n.Left(), n.Stable(), last)
		}
		for o := range nodes {
			a, b := n.Store(), nodes[o].Store()
			x, _ := a.Applied(o)
			y, _ := b.Applied(o)
			if x != y {
				t.Fatal(i, o, x, y)
			}
		}
		at := hlc.Max(last...)
		at = hlc.Max(at, n.Store().Mark(), nodes[0].Store().Mark())
		x, e := n.Store().Scan("", "", at, 99)
		y, f := nodes[0].Store().Scan("", "", at, 99)
		if e != api.OK || f != api.OK || len(x) != len(y) {
			t.Fatal(e, f, len(x), len(y))
		}
		for k := range x {
			if x[k].Key != y[k].Key || string(x[k].Value) != string(y[k].Value) {
				t.Fatal(x[k], y[k])
			}
		}
	}
}

// P23.8: nothing kept, nothing shared.
func TestNothingIsShared(t *testing.T) {
	n := open(t, 0, 1, made(t, 100000))
	v := []byte("abc")
	_, e := n.Put(zero, "k", v[:2], 0)
	ok(t, e)
	v[0] = 'x'
	id, _, e := n.Snap(zero, 9)
	ok(t, e)
	p, _, _ := n.Get(id, "k")
	p[1] = 'y'
	l, _ := n.Scan(id, "", "", 9)
	l[0].Value[0] = 'z'
	if p, _, _ := n.Get(id, "k"); string(p) != "ab" || string(v) != "xbc" {
		t.Error(string(p))
	}
	var s *store.Store = n.Store()
	if s != n.Store() || n.Synced() != 0 || n.Read(0) != 0 {
		t.Error("what is its own, and what is embedded")
	}
}
