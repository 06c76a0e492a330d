package rec_test

import (
	"bytes"
	"math"
	"strings"
	"testing"

	"meridian/api"
	"meridian/octet"
	"meridian/rec"
)

func sample() api.Record {
	return api.Record{Origin: 1, Seq: 2, Key: "k", V: api.Version{Stamp: api.Stamp{Milli: 3, Count: 4}, Origin: 1, Value: []byte("v")}}
}

func good() []api.Record {
	a, b, c, d := sample(), sample(), sample(), sample()
	b.V.Value, b.V.Gone = nil, true
	c.Origin, c.V.Origin, c.Seq, c.Key, c.V.Value = api.MaxNodes-1, api.MaxNodes-1, 1<<40, strings.Repeat("k", api.MaxKey), bytes.Repeat([]byte{0xff}, api.MaxValue)
	c.V.Stamp, c.V.TTL = api.Stamp{Milli: api.MaxMilli, Count: api.MaxCount}, api.MaxMilli
	d.Origin, d.V.Origin, d.Seq, d.Key, d.V.Value, d.V.Stamp = 0, 0, 1, "\x00", []byte{}, api.Stamp{}
	return []api.Record{a, b, c, d}
}

// P14.1: what a record is, field by field, at its limits.
func TestIs(t *testing.T) {
	for i, r := range good() {
		if b, e := rec.Encode(r); !rec.Is(r) || e != api.OK || len(b) == 0 {
			t.Error(i, e)
		}
	}
	for i, change := range []func(r *api.Record){
		func(r *api.Record) { r.Origin, r.V.Origin = -1, -1 },
		func(r *api.Record) { r.Origin, r.V.Origin = api.MaxNodes, api.MaxNodes },
		func(r *api.Record) { r.V.Origin = 0 },
		func(r *api.Record) { r.Seq = 0 },
		func(r *api.Record) { r.Seq = 1<<40 + 1 },
		func(r *api.Record) { r.Seq = math.MinInt },
		func(r *api.Record) { r.Key = "" },
		func(r *api.Record) { r.Key = strings.Repeat("k", api.MaxKey+1) },
		func(r *api.Record) { r.V.Stamp.Milli = -1 },
		func(r *api.Record) { r.V.Stamp.Milli = api.MaxMilli + 1 },
		func(r *api.Record) { r.V.Stamp.Count = -1 },
		func(r *api.Record) { r.V.Stamp.Count = api.MaxCount + 1 },
		func(r *api.Record) { r.V.Value = make([]byte, api.MaxValue+1) },
		func(r *api.Record) { r.V.TTL = -1 },
		func(r *api.Record) { r.V.TTL = api.MaxMilli + 1 },
		func(r *api.Record) { r.V.Gone = true },
		func(r *api.Record) { r.V.Gone, r.V.Value, r.V.TTL = true, nil, 1 },
		func(r *api.Record) { *r = api.Record{} },
	} {
		r := sample()
		change(&r)
		b, e := rec.Encode(r)
		l, f := rec.List(sample(), r)
		if rec.Is(r) || len(b) != 0 || e != api.ErrArg || len(l) != 0 || f != api.ErrArg {
			t.Error(i, e, f)
		}
	}
}

// P14.1: Same goes by every field.
func TestSame(t *testing.T) {
	a := sample()
	for i, change := range []func(r *api.Record){
		func(r *api.Record) { r.Origin = 0 }, func(r *api.Record) { r.Seq++ }, func(r *api.Record) { r.Key = "l" },
		func(r *api.Record) { r.V.Stamp.Milli++ }, func(r *api.Record) { r.V.Stamp.Count++ }, func(r *api.Record) { r.V.Origin = 0 },
		func(r *api.Record) { r.V.Value = []byte("w") }, func(r *api.Record) { r.V.Value = nil }, func(r *api.Record) { r.V.Gone = true }, func(r *api.Record) { r.V.TTL = 1 },
	} {
		b := sample()
		change(&b)
		if rec.Same(a, b) || rec.Same(b, a) || !rec.Same(b, b) {
			t.Error(i)
		}
	}
	b := sample()
	a.V.Value, b.V.Value = nil, []byte{}
	if !rec.Same(a, b) {
		t.Error("nil and empty are the same")
	}
}

// P14.1: bytes, and what is none.
func TestBytes(t *testing.T) {
	b, e := rec.Encode(sample())
	if !bytes.Equal(b, []byte{1, 2, 1, 'k', 3, 4, 0, 0, 1, 'v'}) || e != api.OK {
		t.Error(b, e)
	}
	for i, c := range [][]byte{
		nil, b[:9], append(bytes.Clone(b), 0),
		{5, 2, 1, 'k', 3, 4, 0, 0, 1, 'v'},
		{1, 0, 1, 'k', 3, 4, 0, 0, 1, 'v'},
		{1, 2, 0, 3, 4, 0, 0, 1, 'v'},
		{1, 0x82, 0, 1, 'k', 3, 4, 0, 0, 1, 'v'},
		{1, 2, 1, 'k', 3, 4, 1, 0, 1, 'v'},
		{1, 2, 1, 'k', 3, 4, 1, 1, 0},
		{1, 2, 1, 'k', 3, 4, 2, 0, 0},
		{1, 2, 1, 'k', 3, 0x80, 0x80, 4, 0, 0, 0},
		octet.Join([]byte{1, 2, 1, 'k', 3, 4, 0, 0, 0x81, 8}, make([]byte, 1025)),
		octet.Join([]byte{1, 2, 65}, make([]byte, 65), []byte{3, 4, 0, 0, 0}),
	} {
		if r, e := rec.Decode(c); !rec.Same(r, api.Record{}) || e != api.ErrForm {
			t.Error(i, r, e)
		}
	}
	if r, e := rec.Decode([]byte{1, 2, 1, 'k', 3, 4, 1, 0, 0}); e != api.OK || !r.V.Gone {
		t.Error(r, e)
	}
}

// P14.2.
func TestLists(t *testing.T) {
	one, _ := rec.Encode(sample())
	b, e := rec.List(sample(), sample())
	if !bytes.Equal(b, octet.Join([]byte{2, 10}, one, []byte{10}, one)) || e != api.OK {
		t.Error(b, e)
	}
	if b, e := rec.List(); !bytes.Equal(b, []byte{0}) || e != api.OK {
		t.Error(b, e)
	}
	full := make([]api.Record, api.MaxQueue)
	for i := range full {
		full[i] = sample()
	}
	long, e := rec.List(full...)
	if e != api.OK {
		t.Error(e)
	}
	if l, e := rec.ReadList(long); len(l) != api.MaxQueue || e != api.OK {
		t.Error(len(l), e)
	}
	if b, e := rec.List(append(full, api.Record{})...); len(b) != 0 || e != api.ErrLong {
		t.Error(e)
	}
	long[0]++
	for i, c := range [][]byte{nil, {1}, {0, 0}, {0x80, 0}, {1, 0}, b[:len(b)-1], append(bytes.Clone(b), 0), octet.Join([]byte{1}, b[1:]), octet.Join([]byte{3}, b[1:]), octet.Join(long, []byte{10}, one), {0x80, 0x80, 0x80, 0x80, 0x80, 0x80, 0x80, 0x80, 0x40}} {
		if l, e := rec.ReadList(c); len(l) != 0 || e != api.ErrForm {
			t.Error(i, l, e)
		}
	}
}

// P14.3: there and back; nothing kept, nothing shared.
func TestThereAndBack(t *testing.T) {
	for i, r := range good() {
		b, _ := rec.Encode(r)
		keep := bytes.Clone(b)
		back, e := rec.Decode(b)
		for k := range b {
			b[k] = 0xee
		}
		again, _ := rec.Encode(back)
		if !rec.Same(r, back) || e != api.OK || !bytes.Equal(again, keep) {
			t.Error(i, e)
		}
	}
	b, _ := rec.List(good()...)
	l, e := rec.ReadList(b)
	if len(l) != len(good()) || e != api.OK {
		t.Fatal(e)
	}
	for i := range l {
		_ = append(l[i].V.Value, "spare room"...)
	}
	for i, r := range good() {
		if !rec.Same(r, l[i]) {
			t.Error(i)
		}
	}
	if again, _ := rec.List(l...); !bytes.Equal(again, b) {
		t.Error("changed")
	}
}
