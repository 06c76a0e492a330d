package world_test

import (
	"bytes"
	"math"
	"math/rand"
	"strconv"
	"testing"

	"meridian/api"
	"meridian/hlc"
	"meridian/leap"
	"meridian/world"
)

const (
	sec   = api.Second
	milli = 1000000
	// start is 2016-01-01 by TAI, in the table below.
	start = 16801*api.DayNano + 36*sec
)

func st(m, c int) api.Stamp { return api.Stamp{Milli: m, Count: c} }

func table() api.Table {
	x, _, e := leap.Parse("2015-07-01 36\n2017-01-01 37\nexpires 2026-12-28\n")
	if e != api.OK {
		panic(e)
	}
	return x
}

func made(t *testing.T, places int) *world.World {
	t.Helper()
	w, e := world.New(places, 3, 1<<20, table())
	if e != api.OK {
		t.Fatal(e)
	}
	return w
}

func do(t *testing.T, w *world.World, s world.Step) world.Answer {
	t.Helper()
	a := w.Do(s)
	if a.Err != api.OK {
		t.Fatal(s, a.Err)
	}
	return a
}

func errs(t *testing.T, w *world.World, s world.Step, want api.Errno) {
	t.Helper()
	a := w.Do(s)
	if a.Err != want || a.N != 0 || a.Stamp != st(0, 0) || a.Found || len(a.Value) != 0 || len(a.Pairs) != 0 {
		t.Error(s, a)
	}
}

// P24.1.
func TestNew(t *testing.T) {
	for i, c := range []struct {
		places, servers, room int
		t                     api.Table
	}{{0, 1, 0, table()}, {6, 1, 0, table()}, {-1, 1, 0, table()}, {1, 0, 0, table()}, {1, 9, 0, table()}, {1, 1, -1, table()}, {1, 1, 1<<30 + 1, table()}, {1, 1, 0, api.Table{}}, {math.MaxInt, math.MinInt, math.MinInt, api.Table{}}} {
		if w, e := world.New(c.places, c.servers, c.room, c.t); w != nil || e != api.ErrArg {
			t.Error(i, e)
		}
	}
	x := table()
	w, e := world.New(5, 8, 0, x)
	if e != api.OK || w.Flight() != 0 {
		t.Fatal(e)
	}
	x.Leaps[0].Day = 0
	for id := range 5 {
		if w.Node(id) == nil || w.Disk(id) == nil || w.Node(id).Down() {
			t.Error(id)
		}
	}
	for _, id := range []int{-1, 5, math.MinInt, math.MaxInt} {
		if w.Node(id) != nil || w.Disk(id) != nil {
			t.Error(id)
		}
	}
	if w.Do(world.Step{Kind: world.StepPut, Key: "k"}).Err != api.ErrFull || !w.Node(0).Down() || w.Disk(0) == nil {
		t.Error("no room")
	}
}

// P24.2: what can't be, and places that are down.
func TestErrs(t *testing.T) {
	w := made(t, 2)
	for _, kind := range []int{0, -1, 19, math.MinInt, math.MaxInt} {
		errs(t, w, world.Step{Kind: kind}, api.ErrArg)
	}
	for kind := world.StepPut; kind <= world.StepRest; kind++ {
		for _, id := range []int{-1, 2, math.MinInt, math.MaxInt} {
			want := api.ErrArg
			if kind >= world.StepGive && kind <= world.StepSpoil {
				want = api.ErrNone
			}
			if kind == world.StepRest {
				want = api.OK
			}
			errs(t, made(t, 2), world.Step{Kind: kind, Node: id, N: 1}, want)
		}
	}
	do(t, w, world.Step{Kind: world.StepCrash, Node: 1})
	if w.Node(1) != nil || w.Disk(1) == nil || w.Node(0) == nil {
		t.Error("down")
	}
	for _, kind := range []int{1, 2, 3, 4, 5, 6, 7, 13, 14} {
		errs(t, w, world.Step{Kind: kind, Node: 1, N: -1, Seen: st(-1, 0)}, api.ErrDead)
	}
	errs(t, w, world.Step{Kind: world.StepCrash, Node: 1}, api.OK)
	errs(t, w, world.Step{Kind: world.StepFuse, Node: 1, N: -1}, api.OK)
	errs(t, w, world.Step{Kind: world.StepStart, Node: 1}, api.OK)
	errs(t, w, world.Step{Kind: world.StepStart, Node: 1}, api.OK)
	if w.Node(1) == nil {
		t.Error("not up")
	}
	for _, n := range []int{-1, 1<<40 + 1, math.MinInt, math.MaxInt} {
		errs(t, w, world.Step{Kind: world.StepTick, N: n}, api.ErrArg)
	}
	for _, n := range []int{0, -1, 201, math.MinInt, math.MaxInt} {
		errs(t, w, world.Step{Kind: world.StepRest, N: n}, api.ErrArg)
	}
	do(t, w, world.Step{Kind: world.StepTick, N: 1 << 40})
	do(t, w, world.Step{Kind: world.StepRest, N: 200})
}

// The example; what each step of a store tells.
func TestStoreSteps(t *testing.T) {
	w := made(t, 2)
	a := do(t, w, world.Step{Kind: world.StepPut, Key: "k", Value: []byte("v"), N: 5000})
	if a.Stamp != st(0, 1) || a.N != 0 || a.Found {
		t.Error(a)
	}
	errs(t, w, world.Step{Kind: world.StepSnap, Node: 1, Seen: a.Stamp, N: 9000}, api.ErrBehind)
	do(t, w, world.Step{Kind: world.StepRest, N: 10})
	s := do(t, w, world.Step{Kind: world.StepSnap, Node: 1, Seen: a.Stamp, N: 9000})
	if s.N != 0 || hlc.Compare(s.Stamp, a.Stamp) < 0 {
		t.Error(s)
	}
	s = do(t, w, world.Step{Kind: world.StepSnap, Node: 1, Seen: a.Stamp, N: 9000})
	if g := do(t, w, world.Step{Kind: world.StepGet, Node: 1, N: s.N, Key: "k"}); s.N != 1 || string(g.Value) != "v" || !g.Found || g.N != 0 || g.Stamp != st(0, 0) {
		t.Error(g)
	}
	if g := do(t, w, world.Step{Kind: world.StepGet, Node: 1, N: s.N, Key: "none"}); g.Found || len(g.Value) != 0 {
		t.Error(g)
	}
	for i := range 3 {
		do(t, w, world.Step{Kind: world.StepPut, Node: 1, Key: "l" + strconv.Itoa(i)})
	}
	do(t, w, world.Step{Kind: world.StepDel, Node: 1, Key: "l1"})
	do(t, w, world.Step{Kind: world.StepRest, N: 10})
	s = do(t, w, world.Step{Kind: world.StepSnap, N: 9000})
	for _, c := range []struct {
		from, to string
		most     int
		want     int
	}{{"", "", 99, 3}, {"l", "", 99, 2}, {"l", "l2", 99, 1}, {"", "", 1, 1}, {"", "", 0, 0}} {
		if g := do(t, w, world.Step{Kind: world.StepScan, N: s.N, Key: c.from, To: c.to, M: c.most}); len(g.Pairs) != c.want {
			t.Error(c, g.Pairs)
		}
	}
	if g := do(t, w, world.Step{Kind: world.StepClose, N: s.N}); g.N != 1 {
		t.Error(g)
	}
	if g := do(t, w, world.Step{Kind: world.StepClose, N: s.N}); g.N != 0 {
		t.Error(g)
	}
	errs(t, w, world.Step{Kind: world.StepGet, N: s.N, Key: "k"}, api.ErrNone)
	errs(t, w, world.Step{Kind: world.StepPut, Key: "k", N: -1}, api.ErrArg)
	errs(t, w, world.Step{Kind: world.StepDel, Key: ""}, api.ErrArg)
}

// P24.2: messages under way.
func TestNetSteps(t *testing.T) {
	w := made(t, 3)
	for kind := world.StepGive; kind <= world.StepSpoil; kind++ {
		errs(t, w, world.Step{Kind: kind, By: 1}, api.ErrNone)
	}
	do(t, w, world.Step{Kind: world.StepTick, N: milli})
	if w.Flight() != 2 {
		t.Error(w.Flight())
	}
	if a := do(t, w, world.Step{Kind: world.StepTwice, N: 1}); a.N != 1 || w.Flight() != 3 {
		t.Error(a)
	}
	if a := do(t, w, world.Step{Kind: world.StepLate}); a.N != 1 {
		t.Error(a)
	}
	if a := do(t, w, world.Step{Kind: world.StepSpoil, N: -4, M: 99, By: 0}); a.N != 0 {
		t.Error(a)
	}
	if a := do(t, w, world.Step{Kind: world.StepSpoil, N: -4, M: 99, By: 7}); a.N != 1 {
		t.Error(a)
	}
	// To 2 (spoilt), to 2, to 1.
	if a := do(t, w, world.Step{Kind: world.StepGive, N: 0}); a.N != 0 || w.Node(2).Stable() != st(0, 0) {
		t.Error(a)
	}
	do(t, w, world.Step{Kind: world.StepLose, N: 1})
	if w.Flight() != 1 {
		t.Error(w.Flight())
	}
	do(t, w, world.Step{Kind: world.StepTick, Node: 1, N: milli})
	do(t, w, world.Step{Kind: world.StepTick, Node: 2, N: milli})
	do(t, w, world.Step{Kind: world.StepGive})
	do(t, w, world.Step{Kind: world.StepGive, N: 1}) // of 1 to 2
	if w.Node(2).Stable() != st(1, 0) || w.Node(1).Stable() != st(0, 0) {
		t.Error(w.Node(2).Stable())
	}
	do(t, w, world.Step{Kind: world.StepCrash, Node: 0})
	n := w.Flight()
	do(t, w, world.Step{Kind: world.StepGive})
	if w.Flight() != n-1 {
		t.Error("a message to nobody")
	}
	do(t, w, world.Step{Kind: world.StepPut, Node: 1, Key: "k"})
	do(t, w, world.Step{Kind: world.StepTick, Node: 1})
	for w.Flight() > 0 {
		do(t, w, world.Step{Kind: world.StepGive})
	}
	if seq, _ := w.Node(2).Store().Applied(1); seq != 1 || w.Node(1).Left() != 1 {
		t.Error("answers go into the net", seq)
	}
}

// P24.2: questions and answers.
func TestClockSteps(t *testing.T) {
	ask := func(w *world.World, server int) {
		t.Helper()
		do(t, w, world.Step{Kind: world.StepAsk, N: server})
	}
	w := made(t, 1)
	for _, n := range []int{-1, 3, math.MinInt, math.MaxInt} {
		errs(t, w, world.Step{Kind: world.StepAsk, N: n}, api.ErrArg)
		errs(t, w, world.Step{Kind: world.StepReply, N: n}, api.ErrArg)
	}
	errs(t, w, world.Step{Kind: world.StepReply}, api.ErrNone)
	ask(w, 0)
	ask(w, 1)
	errs(t, w, world.Step{Kind: world.StepReply, N: 2, M: start}, api.ErrNone)
	do(t, w, world.Step{Kind: world.StepTick, N: 8 * milli})
	do(t, w, world.Step{Kind: world.StepReply, N: 0, M: start})
	if s, ok := w.Node(0).Sample(0); !ok || s.Low != start+4*milli-4*milli-1 || s.High != start+4*milli+4*milli+1 {
		t.Error(s, ok)
	}
	errs(t, w, world.Step{Kind: world.StepReply, N: 0, M: start}, api.ErrNone)
	do(t, w, world.Step{Kind: world.StepReply, N: 1, M: start + 99, By: 8})
	if w.Node(0).Synced() != 1 || w.Node(0).Milli() != (start+12*milli)/milli {
		t.Error(w.Node(0).Synced(), w.Node(0).Milli())
	}
	for i, c := range []struct {
		by    byte
		m     int
		want  api.Errno
		again api.Errno
	}{
		{1, start, api.ErrSync, api.ErrNone}, {2, start, api.ErrSync, api.ErrNone}, {4, start, api.ErrOrigin, api.ErrNone}, {1 + 4, start, api.ErrOrigin, api.ErrNone},
		{16, start, api.OK, api.ErrOrigin}, {16 + 1, start, api.ErrSync, api.ErrOrigin}, {16 + 4, start, api.ErrOrigin, api.OK},
		{0, math.MinInt, api.ErrRange, api.ErrNone}, {16, math.MinInt, api.ErrRange, api.OK}, {0, math.MaxInt, api.ErrRange, api.ErrNone},
		{0, 20900 * api.DayNano, api.ErrStale, api.ErrNone},
		{32 + 64 + 128, start, api.OK, api.ErrNone},
	} {
		w := made(t, 1)
		ask(w, 1)
		errs(t, w, world.Step{Kind: world.StepReply, N: 1, M: c.m, By: c.by}, c.want)
		errs(t, w, world.Step{Kind: world.StepReply, N: 1, M: start}, c.again)
		if _, ok := w.Node(0).Sample(1); ok != (c.want == api.OK || c.again == api.OK) {
			t.Error(i, "sample")
		}
	}
	w = made(t, 1)
	ask(w, 0)
	errs(t, w, world.Step{Kind: world.StepAsk, N: 9}, api.ErrArg)
	do(t, w, world.Step{Kind: world.StepReply, M: start, By: 8})
	if s, _ := w.Node(0).Sample(0); s.High-s.Low != 2*(sec+1) {
		t.Error(s)
	}
	ask(w, 0)
	do(t, w, world.Step{Kind: world.StepCrash})
	do(t, w, world.Step{Kind: world.StepStart})
	errs(t, w, world.Step{Kind: world.StepReply, M: start}, api.ErrNone)
}

// P24.2, P24.4: crashes, starts, fuses; the oscillator goes on.
func TestPowerSteps(t *testing.T) {
	w := made(t, 1)
	do(t, w, world.Step{Kind: world.StepTick, N: 7000 * milli})
	a := do(t, w, world.Step{Kind: world.StepPut, Key: "k", Value: []byte("v")})
	do(t, w, world.Step{Kind: world.StepCrash, N: 3, By: 1})
	do(t, w, world.Step{Kind: world.StepFuse, N: 0})
	errs(t, w, world.Step{Kind: world.StepStart}, api.ErrDead)
	if w.Node(0) != nil {
		t.Error("up")
	}
	do(t, w, world.Step{Kind: world.StepFuse, N: -1})
	do(t, w, world.Step{Kind: world.StepStart})
	b := do(t, w, world.Step{Kind: world.StepPut, Key: "k", Value: []byte("w")})
	if hlc.Compare(b.Stamp, a.Stamp) <= 0 || b.Stamp != st(8000, 1) {
		t.Error(a.Stamp, b.Stamp)
	}
	// A new clock begins at 0, but counts from where the oscillator is.
	if w.Node(0).Milli() != 0 {
		t.Error(w.Node(0).Milli())
	}
	do(t, w, world.Step{Kind: world.StepTick, N: 5 * milli})
	if w.Node(0).Milli() != 5 {
		t.Error(w.Node(0).Milli())
	}
	do(t, w, world.Step{Kind: world.StepFuse, N: 1})
	errs(t, w, world.Step{Kind: world.StepPut, Key: "k"}, api.ErrDead)
	if !w.Node(0).Down() {
		t.Error("not down")
	}
	do(t, w, world.Step{Kind: world.StepTick, N: 5 * milli})
	do(t, w, world.Step{Kind: world.StepAsk, N: 0})
	errs(t, w, world.Step{Kind: world.StepStart}, api.OK)
	if !w.Node(0).Down() {
		t.Error("a place that is up is not opened")
	}
	do(t, w, world.Step{Kind: world.StepCrash})
	do(t, w, world.Step{Kind: world.StepStart})
	do(t, w, world.Step{Kind: world.StepPut, Key: "k"})
}

// The kinds of steps are numbers that scripts may have.
func TestKinds(t *testing.T) {
	for i, kind := range []int{world.StepPut, world.StepDel, world.StepSnap, world.StepGet, world.StepScan, world.StepClose, world.StepTick, world.StepGive, world.StepLose, world.StepTwice, world.StepLate, world.StepSpoil, world.StepAsk, world.StepReply, world.StepCrash, world.StepStart, world.StepFuse, world.StepRest} {
		if kind != i+1 {
			t.Error(i, kind)
		}
	}
}

// P24.2: a place that is down: its disk does not crash again, its oscillator stands.
func TestDownStays(t *testing.T) {
	w := made(t, 2)
	do(t, w, world.Step{Kind: world.StepTick, Node: 1, N: 70 * milli})
	do(t, w, world.Step{Kind: world.StepCrash, Node: 1})
	if e := w.Disk(1).Write("x", []byte("not synced")); e != api.OK {
		t.Fatal(e)
	}
	do(t, w, world.Step{Kind: world.StepCrash, Node: 1})
	if b, _ := w.Disk(1).Read("x"); string(b) != "not synced" {
		t.Error(b)
	}
	do(t, w, world.Step{Kind: world.StepRest, N: 20})
	do(t, w, world.Step{Kind: world.StepStart, Node: 1})
	do(t, w, world.Step{Kind: world.StepAsk, Node: 1})
	do(t, w, world.Step{Kind: world.StepReply, Node: 1, M: start})
	if s, _ := w.Node(1).Sample(0); s.Low != start+70*milli-1 {
		t.Error(s.Low - start)
	}
}

// P24.2: in a turn the first message is given first; times are whole milliseconds.
func TestTurns(t *testing.T) {
	w := made(t, 2)
	do(t, w, world.Step{Kind: world.StepPut, Key: "k"})
	do(t, w, world.Step{Kind: world.StepRest, N: 1})
	if w.Node(0).Milli() != 10 || w.Node(1).Milli() != 10 || w.Node(1).Stable() != st(10, 0) || w.Node(0).Left() != 0 {
		t.Error(w.Node(1).Milli(), w.Node(1).Stable())
	}
	do(t, w, world.Step{Kind: world.StepTick, N: 1000000 * milli})
	do(t, w, world.Step{Kind: world.StepRest, N: 1})
	if a, b := w.Node(0).Milli(), w.Node(1).Milli(); a != 1000020 || b != 1000020 {
		t.Error(a, b)
	}
}

// P24.2: rests.
func TestRest(t *testing.T) {
	w := made(t, 3)
	do(t, w, world.Step{Kind: world.StepTick, Node: 1, N: 5000*milli + 7})
	do(t, w, world.Step{Kind: world.StepRest, N: 1})
	for id, want := range []int{5010, 5010, 5010} {
		if n := w.Node(id).Milli(); n != want {
			t.Error(id, n)
		}
	}
	do(t, w, world.Step{Kind: world.StepTick, Node: 2, N: 1 << 40})
	before := w.Node(0).Milli()
	do(t, w, world.Step{Kind: world.StepRest, N: 1})
	if n := w.Node(0).Milli(); n != before+1<<40/milli {
		t.Error("no more than 2^40 nanoseconds", n-before)
	}
	if w.Flight() != 0 {
		t.Error(w.Flight())
	}
	do(t, w, world.Step{Kind: world.StepFuse, Node: 0, N: 0})
	w.Do(world.Step{Kind: world.StepPut, Key: "k"})
	do(t, w, world.Step{Kind: world.StepCrash, Node: 1})
	do(t, w, world.Step{Kind: world.StepRest, N: 5})
	do(t, w, world.Step{Kind: world.StepCrash, Node: 2})
	do(t, w, world.Step{Kind: world.StepCrash, Node: 0})
	do(t, w, world.Step{Kind: world.StepRest, N: 200})
}

// settled holds a world to P24.5.
func settled(t *testing.T, w *world.World, places int) {
	t.Helper()
	most := 0
	var last api.Stamp
	for id := range places {
		most = max(most, w.Node(id).Left())
		for o := range places {
			_, s := w.Node(id).Store().Applied(o)
			last = hlc.Max(last, s)
		}
	}
	for turns := 2*most + 40; turns > 0; turns -= min(turns, 200) {
		do(t, w, world.Step{Kind: world.StepRest, N: min(turns, 200)})
	}
	for id := range places {
		if w.Node(id).Left() != 0 || hlc.Compare(w.Node(id).Stable(), last) <= 0 {
			t.Fatal(id, w.Node(id).Left(), w.Node(id).Stable(), last)
		}
	}
}

// P24.5: with much left, clocks apart, a net full of whatever.
func TestTheyMeet(t *testing.T) {
	r := rand.New(rand.NewSource(24))
	for range 40 {
		places := 1 + r.Intn(api.MaxNodes)
		w := made(t, places)
		for id := range places {
			do(t, w, world.Step{Kind: world.StepTick, Node: id, N: r.Intn(14900) * milli})
		}
		for range 150 {
			id := r.Intn(places)
			switch r.Intn(4) {
			case 0:
				w.Do(world.Step{Kind: world.StepTick, Node: id, N: milli})
			case 1:
				w.Do(world.Step{Kind: world.StepLose, N: r.Intn(99)})
			default:
				w.Do(world.Step{Kind: world.StepPut, Node: id, Key: "k" + strconv.Itoa(r.Intn(4)), Value: []byte(strconv.Itoa(r.Int()))})
			}
		}
		if r.Intn(2) == 0 {
			id := r.Intn(places)
			do(t, w, world.Step{Kind: world.StepCrash, Node: id, N: r.Intn(99)})
			do(t, w, world.Step{Kind: world.StepStart, Node: id})
			do(t, w, world.Step{Kind: world.StepTick, Node: id, N: 7000 * milli})
		}
		settled(t, w, places)
	}
}

// P24.6: whatever is done, nothing panics.
func TestNothingPanics(t *testing.T) {
	r := rand.New(rand.NewSource(25))
	numbers := []int{math.MinInt, -1, 0, 1, 2, 3, 5, 16, 64, 200, 1000, milli, sec, 1 << 40, 1 << 62, math.MaxInt, start}
	pick := func() int { return numbers[r.Intn(len(numbers))] }
	for range 150 {
		w, e := world.New(1+r.Intn(5), 1+r.Intn(8), []int{0, 100, 1000, 1 << 20}[r.Intn(4)], table())
		if e != api.OK {
			t.Fatal(e)
		}
		for range 300 {
			s := world.Step{Kind: r.Intn(21) - 1, Node: r.Intn(6), N: r.Intn(9), M: r.Intn(9), By: byte(r.Intn(256)), Key: "k", Value: []byte("v")}
			switch r.Intn(6) {
			case 0:
				s.N, s.M = pick(), pick()
			case 1:
				s.Seen = api.Stamp{Milli: pick(), Count: pick()}
			case 2:
				s.Key, s.To, s.Value = string(make([]byte, r.Intn(99))), "l", make([]byte, r.Intn(2000))
			case 3:
				s.Node = pick()
			}
			if s.Kind == world.StepRest {
				s.N = min(s.N, 3)
			}
			w.Do(s)
		}
	}
	var none *world.World
	errs(t, none, world.Step{Kind: world.StepPut}, api.ErrArg)
	errs(t, none, world.Step{Kind: world.StepGive}, api.ErrArg)
	if none.Node(0) != nil || none.Disk(0) != nil || none.Flight() != 0 {
		t.Error("nil")
	}
	var zero world.World
	for kind := range 20 {
		zero.Do(world.Step{Kind: kind, N: 1})
	}
}

// P24.6: nothing kept, nothing shared.
func TestNothingIsShared(t *testing.T) {
	w := made(t, 1)
	v := []byte("abc")
	do(t, w, world.Step{Kind: world.StepPut, Key: "k", Value: v})
	v[0] = 'x'
	s := do(t, w, world.Step{Kind: world.StepSnap, N: 99})
	a := do(t, w, world.Step{Kind: world.StepGet, N: s.N, Key: "k"})
	a.Value[1] = 'y'
	b := do(t, w, world.Step{Kind: world.StepScan, N: s.N, M: 9})
	b.Pairs[0].Value[2] = 'z'
	if c := do(t, w, world.Step{Kind: world.StepGet, N: s.N, Key: "k"}); !bytes.Equal(c.Value, []byte("abc")) {
		t.Error(c)
	}
	if w.Node(0) != w.Node(0) || w.Disk(0) != w.Disk(0) {
		t.Error("nodes and disks are its own")
	}
}
