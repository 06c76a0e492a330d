package stream_test

import (
	"math"
	"math/rand"
	"testing"

	"meridian/api"
	"meridian/rec"
	"meridian/stream"
	"meridian/wire"
)

func record(origin, seq int) api.Record {
	return api.Record{Origin: origin, Seq: seq, Key: "k", V: api.Version{Stamp: api.Stamp{Milli: seq}, Origin: origin, Value: []byte("v")}}
}

func row(origin int, seqs ...int) []api.Record {
	var l []api.Record
	for _, n := range seqs {
		l = append(l, record(origin, n))
	}
	return l
}

func out(t *testing.T, acked int) *stream.Out {
	t.Helper()
	o, e := stream.NewOut(1, 2, acked)
	if e != api.OK || o.Acked() != acked {
		t.Fatal(e)
	}
	return o
}

// P18.1, P18.4: places and numbers that are none.
func TestNew(t *testing.T) {
	for _, c := range [][3]int{{-1, 0, 0}, {api.MaxNodes, 0, 0}, {0, -1, 0}, {0, api.MaxNodes, 0}, {3, 3, 0}, {0, 1, -1}, {0, 1, 1<<40 + 1}, {math.MinInt, math.MaxInt, math.MinInt}} {
		o, e := stream.NewOut(c[0], c[1], c[2])
		i, f := stream.NewIn(c[0], c[1], c[2])
		if o != nil || e != api.ErrArg || i != nil || f != api.ErrArg {
			t.Error(c, e, f)
		}
	}
	for _, c := range [][3]int{{0, 1, 0}, {api.MaxNodes - 1, 0, 1 << 40}} {
		o, e := stream.NewOut(c[0], c[1], c[2])
		i, f := stream.NewIn(c[0], c[1], c[2])
		if e != api.OK || f != api.OK || o.Acked() != c[2] || i.Applied() != c[2] {
			t.Error(c, e, f)
		}
	}
}

// P18.1, P18.3: what is needed, as ticks go by.
func TestNeed(t *testing.T) {
	o := out(t, 4)
	need := func(last, want int, is bool) {
		t.Helper()
		if n, ok := o.Need(last); n != want || ok != is {
			t.Error(n, ok)
		}
	}
	need(4, 0, false)
	need(3, 0, false)
	need(math.MinInt, 0, false)
	need(5, 5, true)
	for range 10 {
		o.Tick()
	}
	if _, e := o.Send(row(1, 5, 6, 7)...); e != api.OK {
		t.Fatal(e)
	}
	need(7, 0, false)
	need(9, 8, true)
	for i := range api.Again {
		need(7, 0, false)
		if i > 0 {
			need(8, 8, true)
		}
		o.Tick()
	}
	need(7, 5, true)
	need(5, 5, true)
	need(4, 0, false)
	need(8, 8, true)
	o.Send(row(1, 5)...)
	need(7, 0, false)
	for range api.Again {
		o.Tick()
	}
	for _, seq := range []int{4, 8, -1, math.MaxInt, math.MinInt} {
		if o.Ack(seq) || o.Acked() != 4 {
			t.Error(seq)
		}
	}
	if !o.Ack(6) || o.Acked() != 6 || o.Ack(6) || o.Ack(5) {
		t.Error("an Ack")
	}
	for range api.Again {
		need(7, 0, false)
		o.Tick()
	}
	need(7, 7, true)
	if !o.Ack(7) {
		t.Error("all")
	}
	for range 10 {
		o.Tick()
	}
	need(7, 0, false)
	o.Send(row(1, 8)...)
	need(8, 0, false)
}

// P18.2: errors in their order; the message.
func TestSend(t *testing.T) {
	o := out(t, 4)
	bad := record(1, 5)
	bad.Key = ""
	for i, c := range []struct {
		l    []api.Record
		want api.Errno
	}{
		{nil, api.ErrArg},
		{[]api.Record{bad}, api.ErrArg},
		{row(0, 5), api.ErrArg},
		{append(row(1, 5, 9, 9, 9, 9, 9, 9, 9), bad), api.ErrArg},
		{row(1, 5, 6, 7, 8, 9, 10, 11, 12, 13), api.ErrLong},
		{row(1, 9, 9, 9, 9, 9, 9, 9, 9, 9), api.ErrLong},
		{row(1, 6), api.ErrOrder},
		{row(1, 4, 5), api.ErrOrder},
		{row(1, 5, 7), api.ErrOrder},
		{row(1, 5, 5), api.ErrOrder},
		{row(1, 6, 5), api.ErrOrder},
	} {
		if m, e := o.Send(c.l...); len(m) != 0 || e != c.want {
			t.Error(i, m, e)
		}
	}
	if n, ok := o.Need(5); n != 5 || !ok {
		t.Error("something was sent")
	}
	l := row(1, 5, 6, 7, 8, 9, 10, 11, 12)
	m, e := o.Send(l...)
	if e != api.OK || len(m) != 1 || m[0].From != 1 || m[0].To != 2 {
		t.Fatal(m, e)
	}
	w, e := wire.Decode(m[0].Data)
	if e != api.OK || w.Kind != wire.Records || w.Origin != 1 || w.Seq != 5 || len(w.Records) != 8 || !rec.Same(w.Records[7], l[7]) {
		t.Error(w, e)
	}
	for _, again := range [][]int{{5}, {12}, {12, 13}, {6, 7}} {
		if _, e := o.Send(row(1, again...)...); e != api.OK {
			t.Error(again, e)
		}
	}
	if n, _ := o.Need(99); n != 14 {
		t.Error("sent is the last one's", n)
	}
	if _, e := o.Send(row(1, 15)...); e != api.ErrOrder {
		t.Error(e)
	}
}

// P18.4: the example, what ends a row, what is passed over.
func TestTake(t *testing.T) {
	i, _ := stream.NewIn(1, 0, 4)
	bad := record(0, 6)
	bad.V.TTL = -1
	for k, c := range []struct {
		l    []api.Record
		want []int
	}{
		{row(0, 3, 5, 6, 8), []int{5, 6}},
		{nil, nil},
		{row(0, 6, 7), nil},
		{row(0, 6, 5, 6, 7), []int{5, 6, 7}},
		{row(0, 5, 5, 6), []int{5}},
		{append(row(2, 5), row(0, 5)...), []int{5}},
		{append(append(row(0, 5), row(2, 6)...), row(0, 6)...), []int{5}},
		{append(append(row(0, 5), bad), row(0, 6)...), []int{5}},
		{append([]api.Record{bad}, row(0, 5, 6)...), []int{5, 6}},
	} {
		l := i.Take(c.l...)
		good := len(l) == len(c.want)
		for n := range min(len(l), len(c.want)) {
			good = good && rec.Same(l[n], record(0, c.want[n]))
		}
		if !good || i.Applied() != 4 {
			t.Error(k, l)
		}
	}
	given := row(0, 5)
	l := i.Take(given...)
	l[0].V.Value[0] = 'x'
	if !rec.Same(given[0], record(0, 5)) {
		t.Error("shared")
	}
}

func TestDone(t *testing.T) {
	i, _ := stream.NewIn(1, 0, 4)
	for _, c := range [][2]int{{3, 4}, {-1, 4}, {7, 7}, {5, 7}, {math.MinInt, 7}, {math.MaxInt, 1 << 40}, {1, 1 << 40}} {
		m := i.Done(c[0])
		if len(m) != 1 || m[0].From != 1 || m[0].To != 0 || i.Applied() != c[1] {
			t.Fatal(c, m)
		}
		if w, e := wire.Decode(m[0].Data); e != api.OK || w.Kind != wire.Ack || w.Origin != 0 || w.Seq != c[1] {
			t.Error(c, w, e)
		}
	}
}

// P18.5: whatever is lost, doubled, late: in order, once, and in the end all.
func TestAllIsTaken(t *testing.T) {
	r := rand.New(rand.NewSource(18))
	for round := range 100 {
		o := out(t, 0)
		in, _ := stream.NewIn(2, 1, 0)
		var there, back []api.Msg
		var got []int
		last := 5 + r.Intn(40)
		for turn := range 2000 {
			lossy := turn < 1000
			o.Tick()
			if from, ok := o.Need(last); ok {
				var l []api.Record
				for n := from; n <= last && len(l) < 1+r.Intn(api.Window); n++ {
					l = append(l, record(1, n))
				}
				m, e := o.Send(l...)
				if e != api.OK {
					t.Fatal(e)
				}
				there = append(there, m...)
			}
			if n := len(there); n > 0 {
				k := r.Intn(n)
				w, _ := wire.Decode(there[k].Data)
				if !lossy || r.Intn(3) > 0 {
					l := in.Take(w.Records...)
					seq := in.Applied()
					for _, x := range l {
						seq = x.Seq
						got = append(got, seq)
					}
					back = append(back, in.Done(seq)...)
				}
				if !lossy || r.Intn(4) > 0 {
					there = append(there[:k], there[k+1:]...)
				}
			}
			if n := len(back); n > 0 {
				k := r.Intn(n)
				w, _ := wire.Decode(back[k].Data)
				if !lossy || r.Intn(3) > 0 {
					o.Ack(w.Seq)
				}
				back = append(back[:k], back[k+1:]...)
			}
		}
		if o.Acked() != last || in.Applied() != last || len(got) != last {
			t.Fatal(round, o.Acked(), in.Applied(), last)
		}
		for i, n := range got {
			if n != i+1 {
				t.Fatal(round, got)
			}
		}
	}
}

func TestNil(t *testing.T) {
	var o *stream.Out
	var i *stream.In
	o.Tick()
	n, ok := o.Need(5)
	m, e := o.Send(record(1, 1))
	if n != 0 || ok || len(m) != 0 || e != api.ErrArg || o.Ack(1) || o.Acked() != 0 || len(i.Take(record(1, 1))) != 0 || len(i.Done(1)) != 0 || i.Applied() != 0 {
		t.Error("nil")
	}
}
