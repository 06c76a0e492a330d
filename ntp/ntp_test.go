package ntp_test

import (
	"bytes"
	"math"
	"slices"
	"testing"

	"meridian/api"
	"meridian/era"
	"meridian/leap"
	"meridian/ntp"
	"meridian/packet"
	"meridian/scale"
	"meridian/slew"
)

const sec = api.Second

// start is 2016-01-01 by TAI, in the table below.
const start = 16801*api.DayNano + 36*sec

func table() api.Table {
	x, _, e := leap.Parse("2015-07-01 36\n2017-01-01 37\nexpires 2026-12-28\n")
	if e != api.OK {
		panic(e)
	}
	return x
}

func client(t *testing.T, servers int) *ntp.Client {
	t.Helper()
	c, e := ntp.New(table(), servers, 0)
	if e != api.OK {
		t.Fatal(e)
	}
	return c
}

// stamp is a moment of TAI as a server tells it.
func stamp(tai int) uint64 {
	u, e := scale.UTC(table(), tai)
	if e != api.OK {
		panic(e)
	}
	s, e := era.Stamp(u)
	if e != api.OK {
		panic(e)
	}
	return s
}

func origin(t *testing.T, b []byte) uint64 {
	t.Helper()
	p, e := packet.Decode(b)
	if e != api.OK {
		t.Fatal(e)
	}
	return p.Transmit
}

func encoded(t *testing.T, p packet.Packet) []byte {
	t.Helper()
	b, e := packet.Encode(p)
	if e != api.OK {
		t.Fatal(e)
	}
	return b
}

// ask asks a server, and is a good answer by TAI.
func ask(t *testing.T, c *ntp.Client, server, count, t2, t3 int) packet.Packet {
	t.Helper()
	b, e := c.Ask(server, count)
	if e != api.OK {
		t.Fatal(e)
	}
	return packet.Packet{Mode: 4, Stratum: 1, Origin: origin(t, b), Receive: stamp(t2), Transmit: stamp(t3)}
}

// P9.1.
func TestNewAndAsk(t *testing.T) {
	for _, c := range []struct {
		x              api.Table
		servers, count int
	}{{api.Table{}, 1, 0}, {table(), 0, 0}, {table(), 9, 0}, {table(), -1, 0}, {table(), 1, -1}, {table(), math.MaxInt, 0}, {table(), math.MinInt, math.MinInt}} {
		if n, e := ntp.New(c.x, c.servers, c.count); n != nil || e != api.ErrArg {
			t.Error(c, e)
		}
	}
	c := client(t, 8)
	if c.Read(0) != 0 || c.Synced() != 0 {
		t.Error("at first")
	}
	for i, server := range []int{0, 7, 0, 3} {
		b, e := c.Ask(server, i*10)
		if !bytes.Equal(b, encoded(t, packet.Packet{Mode: 3, Transmit: uint64(i + 1)})) || e != api.OK || c.Read(0) != i*10 {
			t.Error(server, b, e)
		}
	}
	for _, server := range []int{-1, 8, math.MinInt, math.MaxInt} {
		if b, e := c.Ask(server, 99); len(b) != 0 || e != api.ErrArg || c.Read(0) != 30 {
			t.Error(server, b, e)
		}
	}
	if b, _ := c.Ask(0, 0); origin(t, b) != 5 {
		t.Error("a question that errs is none")
	}
}

// P9.2: errors up to that of the question, that leave it; then those that take it.
func TestHearErrs(t *testing.T) {
	c := client(t, 3)
	if e := c.Hear(0, 1000, encoded(t, packet.Packet{Mode: 4, Stratum: 1, Origin: 1, Receive: 1, Transmit: 1})); e != api.ErrOrigin {
		t.Error("without a question", e)
	}
	if e := c.Hear(0, 1000, encoded(t, packet.Packet{Mode: 4, Stratum: 1, Receive: 1, Transmit: 1})); e != api.ErrOrigin {
		t.Error("no number is none", e)
	}
	good := ask(t, c, 0, 0, start, start)
	change := func(f func(p *packet.Packet)) []byte {
		p := good
		f(&p)
		return encoded(t, p)
	}
	plain := encoded(t, good)
	keeps := func(name string, server int, b []byte, want api.Errno) {
		t.Helper()
		if e := c.Hear(server, 500, b); e != want || c.Read(0) != 0 {
			t.Error(name, e)
		}
	}
	keeps("no server", 3, nil, api.ErrArg)
	keeps("no server", -1, plain, api.ErrArg)
	keeps("short", 0, plain[:47], api.ErrShort)
	keeps("long", 0, append(bytes.Clone(plain), 0), api.ErrLong)
	keeps("form", 0, bytes.Repeat([]byte{9}, 48), api.ErrForm)
	keeps("a question", 0, change(func(p *packet.Packet) { p.Mode, p.Origin = 3, 99 }), api.ErrForm)
	keeps("something else", 0, change(func(p *packet.Packet) { p.Origin, p.Leap = 2, 3 }), api.ErrOrigin)
	keeps("another server", 1, plain, api.ErrOrigin)
	for i, x := range []struct {
		f    func(p *packet.Packet)
		want api.Errno
	}{
		{func(p *packet.Packet) { p.Leap, p.Receive = 3, 0 }, api.ErrSync},
		{func(p *packet.Packet) { p.Stratum, p.Receive = 0, 0 }, api.ErrSync},
		{func(p *packet.Packet) { p.Stratum = 16 }, api.ErrSync},
		{func(p *packet.Packet) { p.Receive = 0 }, api.ErrForm},
		{func(p *packet.Packet) { p.Transmit = 0 }, api.ErrForm},
		{func(p *packet.Packet) { p.Receive = stamp(start + sec) }, api.ErrOrder},
		{func(p *packet.Packet) { p.Transmit = stamp(start + sec) }, api.ErrRange},
		{func(p *packet.Packet) { p.Receive, p.Transmit = stale(), stale() }, api.ErrStale},
		{func(p *packet.Packet) { p.Transmit = stale() }, api.ErrStale},
		{func(p *packet.Packet) { p.Receive = stale() }, api.ErrStale},
	} {
		good = ask(t, c, 0, 0, start, start)
		b := change(x.f)
		if e := c.Hear(0, 0, b); e != x.want {
			t.Error(i, e)
		}
		if e := c.Hear(0, 0, encoded(t, good)); e != api.ErrOrigin {
			t.Error(i, "the question was not taken", e)
		}
		if _, ok := c.Sample(0); ok {
			t.Error(i, "a sample")
		}
	}
}

// stale is the first moment of the day from which on nobody knows.
func stale() uint64 {
	s, _ := era.Stamp(api.UTC{Day: table().Expires})
	return s
}

// P9.2: a day that has a second less has no moment there.
func TestNoMoment(t *testing.T) {
	x, e := leap.Of(30000, api.Leap{Day: 0, Offset: 10}, api.Leap{Day: 31, Offset: 9})
	if e != api.OK {
		t.Fatal(e)
	}
	c, _ := ntp.New(x, 1, 0)
	b, _ := c.Ask(0, 0)
	s, _ := era.Stamp(api.UTC{Day: 30, Nano: api.DayNano - 1})
	if e := c.Hear(0, 0, encoded(t, packet.Packet{Mode: 4, Stratum: 1, Origin: origin(t, b), Receive: s, Transmit: s})); e != api.ErrRange {
		t.Error(e)
	}
}

// P9.2: delays at their edges, the sample's numbers.
func TestSamples(t *testing.T) {
	for _, x := range []struct {
		delay, held int
		want        api.Errno
	}{{0, 0, api.OK}, {0, 1, api.ErrRange}, {16 * sec, 0, api.OK}, {16*sec + 1, 0, api.ErrRange}, {20 * sec, 4 * sec, api.OK}, {3 * sec, sec, api.OK}} {
		c := client(t, 3)
		p := ask(t, c, 1, 0, start, start+x.held)
		p.RootError, p.RootDelay, p.Stratum = 65537, 7, 15
		if e := c.Hear(1, x.delay, encoded(t, p)); e != x.want {
			t.Error(x, e)
			continue
		}
		s, ok := c.Sample(1)
		if x.want != api.OK {
			if ok || s != (api.Interval{}) {
				t.Error(x, "a sample")
			}
			continue
		}
		offset := (start + start + x.held - x.delay) >> 1
		wrong := (x.delay-x.held)/2 + 1 + sec + 15259 + 45777 // 1 and 3 of 2^-16 seconds, rounded up
		if s != (api.Interval{Low: offset - wrong, High: offset + wrong}) || !ok || c.Synced() != 0 || c.Read(0) != x.delay {
			t.Error(x, s, offset, wrong)
		}
	}
}

// P9.2: more than half of the servers, not of those that answered; samples go by age; the clock steps and slews.
func TestMost(t *testing.T) {
	c := client(t, 3)
	hear := func(server, asked, count, t2 int) {
		t.Helper()
		p := ask(t, c, server, asked, t2, t2)
		if e := c.Hear(server, count, encoded(t, p)); e != api.OK {
			t.Fatal(e)
		}
	}
	hear(0, 0, 100, start)
	if c.Synced() != 0 {
		t.Error("one of three")
	}
	hear(1, 100, 200, start+99*sec)
	if c.Synced() != 0 {
		t.Error("two that do not agree")
	}
	a, _ := c.Sample(0)
	hear(2, 200, 300, start+220)
	if c.Synced() != 1 {
		t.Fatal("two of three")
	}
	for i := range 3 {
		if s, ok := c.Sample(i); ok || s != (api.Interval{}) {
			t.Error(i, "not forgotten")
		}
	}
	// Server 2: offset (start+220)*2-500 halved, error 51; server 0: start-50, error 51.
	low, high := max(a.Low, start-30-51), min(a.High, start-30+51)
	if n := c.Read(300); n != 300+(low+high)>>1 || c.Left() != 0 {
		t.Error(n-start, (low+high)>>1-start)
	}
}

// P9.2: a sample at MaxAge counts, one that is older does not.
func TestAge(t *testing.T) {
	for _, older := range []int{0, 1} {
		c := client(t, 2)
		p := ask(t, c, 0, 0, start, start)
		c.Hear(0, 0, encoded(t, p))
		later := api.MaxAge + older
		p = ask(t, c, 1, later, start+later, start+later)
		if e := c.Hear(1, later, encoded(t, p)); e != api.OK || c.Synced() != 1-older {
			t.Error(older, e, c.Synced())
		}
		if _, ok := c.Sample(0); ok != (older == 1) {
			t.Error(older, "forgotten by age?")
		}
	}
}

// P9.2: heard where no moment is.
func TestBeyond(t *testing.T) {
	c := client(t, 1)
	p := ask(t, c, 0, 0, start, start)
	if e := c.Hear(0, math.MaxInt, encoded(t, p)); e != api.ErrRange {
		t.Error(e)
	}
	p = ask(t, c, 0, math.MaxInt, start, start)
	if e := c.Hear(0, math.MaxInt, encoded(t, p)); e != api.ErrRange {
		t.Error("asked there, too", e)
	}
}

// P9.4: servers that tell the truth; over a leap second, too.
func TestTruth(t *testing.T) {
	c := client(t, 4)
	truth := 17166*api.DayNano + 86399*sec + 36*sec // a second ahead of the leap second
	count := 0
	for round := range 5 {
		for server := range 4 {
			up, down := 1000*(server+1), 5000*(round+1)
			p := ask(t, c, server, count, truth+count+up, truth+count+up+500)
			count += up + 500 + down
			if e := c.Hear(server, count, encoded(t, p)); e != api.OK {
				t.Fatal(round, server, e)
			}
			count += sec / 5
		}
		if wrong := c.Read(count) + c.Left() - (truth + count); max(wrong, -wrong) > 20000 {
			t.Error(round, wrong)
		}
	}
	if c.Synced() < 4 {
		t.Error(c.Synced())
	}
}

// P9.4: an answer is taken once; a nil Client; nothing kept.
func TestTwiceAndNil(t *testing.T) {
	x := table()
	c, _ := ntp.New(x, 2, 0)
	x.Leaps[0].Offset = 500
	p := ask(t, c, 0, 0, start, start)
	b := encoded(t, p)
	keep := bytes.Clone(b)
	if e := c.Hear(0, 0, b); e != api.OK || !bytes.Equal(b, keep) {
		t.Error(e)
	}
	if e := c.Hear(0, 0, b); e != api.ErrOrigin {
		t.Error(e)
	}
	if s, ok := c.Sample(0); !ok || s != (api.Interval{Low: start - 1, High: start + 1}) {
		t.Error("the table is kept", s)
	}
	var none *ntp.Client
	if b, e := none.Ask(0, 0); len(b) != 0 || e != api.ErrArg {
		t.Error(e)
	}
	if s, ok := none.Sample(0); ok || s != (api.Interval{}) || none.Hear(0, 0, keep) != api.ErrArg || none.Synced() != 0 {
		t.Error("nil")
	}
	var embedded *slew.Clock = c.Clock
	if embedded.Read(77) != c.Read(0) {
		t.Error("a Client has what its Clock has")
	}
	if _, ok := c.Sample(5); ok {
		t.Error("no such server")
	}
	if !slices.Equal(x.Leaps[1:], table().Leaps[1:]) {
		t.Error("changed")
	}
}
