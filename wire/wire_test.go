package wire_test

import (
	"bytes"
	"math"
	"testing"

	"meridian/api"
	"meridian/frame"
	"meridian/octet"
	"meridian/rec"
	"meridian/wire"
)

func row(origin, from, n int) []api.Record {
	var l []api.Record
	for i := range n {
		l = append(l, api.Record{Origin: origin, Seq: from + i, Key: "k", V: api.Version{Stamp: api.Stamp{Milli: i + 1}, Origin: origin, Value: []byte("v")}})
	}
	return l
}

func words() []wire.Word {
	return []wire.Word{
		{Kind: wire.Records, Origin: 2, Seq: 7, Records: row(2, 7, 3)},
		{Kind: wire.Records, Origin: 0, Seq: 1, Records: row(0, 1, api.MaxQueue)},
		{Kind: wire.Ack, Origin: 1, Seq: 5},
		{Kind: wire.Records, Origin: 4, Seq: 1 << 40, Records: row(4, 1<<40, 1)},
		{Kind: wire.Ack, Origin: api.MaxNodes - 1},
		{Kind: wire.Ack, Seq: 1 << 40, Records: []api.Record{}},
		{Kind: wire.Beat, Origin: 1, Seq: 9, Stamp: api.Stamp{Milli: 300, Count: 2}, Floor: api.Stamp{Milli: 1, Count: 4}},
		{Kind: wire.Beat, Seq: 1 << 40, Stamp: api.Stamp{Milli: api.MaxMilli, Count: api.MaxCount}, Floor: api.Stamp{Milli: api.MaxMilli, Count: api.MaxCount}},
		{Kind: wire.Beat},
	}
}

func same(a, b wire.Word) bool {
	if a.Kind != b.Kind || a.Origin != b.Origin || a.Seq != b.Seq || a.Stamp != b.Stamp || a.Floor != b.Floor || len(a.Records) != len(b.Records) {
		return false
	}
	for i := range a.Records {
		if !rec.Same(a.Records[i], b.Records[i]) {
			return false
		}
	}
	return true
}

// P17.1: what a record of a word holds.
func TestBytes(t *testing.T) {
	list, _ := rec.List(row(2, 7, 3)...)
	for i, c := range []struct {
		w    wire.Word
		want []byte
	}{
		{words()[2], []byte{2, 1, 5}},
		{words()[0], octet.Join([]byte{1, 2, 7}, list)},
		{words()[6], []byte{3, 1, 9, 0xac, 2, 2, 1, 4}},
	} {
		b, e := wire.Encode(c.w)
		p, f := frame.One(b)
		if !bytes.Equal(p, c.want) || e != api.OK || f != api.OK {
			t.Error(i, p, e, f)
		}
	}
}

// P17.1: what is no word.
func TestNoWords(t *testing.T) {
	good := words()
	change := func(i int, f func(w *wire.Word)) wire.Word {
		w := good[i]
		w.Records = append([]api.Record(nil), w.Records...)
		f(&w)
		return w
	}
	for i, w := range []wire.Word{
		{}, {Kind: 4}, {Kind: -1}, {Kind: math.MaxInt},
		{Kind: wire.Records, Seq: 1},
		{Kind: wire.Records, Seq: 1, Records: row(0, 1, api.MaxQueue+1)},
		change(0, func(w *wire.Word) { w.Seq = 8 }),
		change(0, func(w *wire.Word) { w.Origin = 1 }),
		change(0, func(w *wire.Word) { w.Records[2].Seq = 8 }),
		change(0, func(w *wire.Word) { w.Records[2].Origin, w.Records[2].V.Origin = 1, 1 }),
		change(0, func(w *wire.Word) { w.Records[1].Key = "" }),
		change(0, func(w *wire.Word) { w.Stamp.Milli = 1 }),
		change(0, func(w *wire.Word) { w.Floor.Count = 1 }),
		change(2, func(w *wire.Word) { w.Stamp.Count = 1 }),
		change(2, func(w *wire.Word) { w.Floor.Milli = 1 }),
		change(2, func(w *wire.Word) { w.Records = row(1, 5, 1) }),
		change(2, func(w *wire.Word) { w.Seq = -1 }),
		change(2, func(w *wire.Word) { w.Seq = 1<<40 + 1 }),
		change(2, func(w *wire.Word) { w.Origin = -1 }),
		change(2, func(w *wire.Word) { w.Origin = api.MaxNodes }),
		change(6, func(w *wire.Word) { w.Records = row(1, 9, 1) }),
		change(6, func(w *wire.Word) { w.Seq = -1 }),
		change(6, func(w *wire.Word) { w.Seq = 1<<40 + 1 }),
		change(6, func(w *wire.Word) { w.Origin = api.MaxNodes }),
		change(6, func(w *wire.Word) { w.Stamp.Milli = -1 }),
		change(6, func(w *wire.Word) { w.Stamp.Count = api.MaxCount + 1 }),
		change(6, func(w *wire.Word) { w.Floor.Milli = api.MaxMilli + 1 }),
		change(6, func(w *wire.Word) { w.Floor.Count = -1 }),
	} {
		if b, e := wire.Encode(w); len(b) != 0 || e != api.ErrArg {
			t.Error(i, e)
		}
	}
}

// P17.1: bytes that are no word.
func TestDecodeErrs(t *testing.T) {
	one := func(p ...byte) []byte {
		b, _ := frame.Encode(p)
		return b
	}
	list, _ := rec.List(row(2, 7, 3)...)
	good := one(2, 1, 5)
	turned := bytes.Clone(good)
	turned[9] ^= 4
	head := []byte{1, 0, 4, 0} // a byte more than a record may have
	sum := octet.Sum(head)
	long := append(head, byte(sum), byte(sum>>8), byte(sum>>16), byte(sum>>24))
	for i, c := range []struct {
		b    []byte
		want api.Errno
	}{
		{nil, api.ErrShort}, {good[:14], api.ErrShort}, {turned, api.ErrSum}, {append(turned, 1), api.ErrSum},
		{append(bytes.Clone(good), 0), api.ErrForm}, {append(bytes.Clone(good), good...), api.ErrForm},
		{one(), api.ErrForm}, {one(2, 1), api.ErrForm}, {one(2, 1, 5, 0), api.ErrForm}, {one(2, 5, 5), api.ErrForm}, {one(0, 1, 5), api.ErrForm}, {one(4, 1, 5), api.ErrForm},
		{one(2, 0x81, 0, 5), api.ErrForm}, {one(3, 1, 9, 1, 2, 3), api.ErrForm}, {one(3, 1, 9, 1, 2, 3, 4, 5), api.ErrForm},
		{one(3, 1, 9, 1, 0x80, 0x80, 4, 3, 4), api.ErrForm},
		{one(1, 2, 7), api.ErrForm}, {one(1, 2, 7, 0), api.ErrForm}, {one(octet.Join([]byte{1, 2, 8}, list)...), api.ErrForm}, {one(octet.Join([]byte{1, 1, 7}, list)...), api.ErrForm},
		{one(octet.Join([]byte{1, 2, 7}, list, []byte{0})...), api.ErrForm}, {one(octet.Join([]byte{1, 2, 7}, list[:len(list)-1])...), api.ErrForm},
	} {
		if w, e := wire.Decode(c.b); !same(w, wire.Word{}) || e != c.want {
			t.Error(i, w, e)
		}
	}
	if _, e := wire.Decode(long); e != api.ErrLong {
		t.Error(e)
	}
}

// P17.2: there and back; a byte that is another one; nothing shared.
func TestThereAndBack(t *testing.T) {
	for i, w := range words() {
		b, e := wire.Encode(w)
		keep := bytes.Clone(b)
		back, f := wire.Decode(b)
		if !same(w, back) || e != api.OK || f != api.OK {
			t.Error(i, e, f)
		}
		for k := range back.Records {
			_ = append(back.Records[k].V.Value, "spare"...)
		}
		if !same(w, back) || !bytes.Equal(b, keep) {
			t.Error(i, "shared")
		}
		for k := range min(len(b), 200) {
			for _, by := range []byte{1, 0x80, 0x55} {
				b[k] ^= by
				if _, e := wire.Decode(b); e == api.OK {
					t.Error(i, k)
				}
				b[k] ^= by
			}
		}
	}
}
