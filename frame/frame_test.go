package frame_test

import (
	"bytes"
	"encoding/binary"
	"hash/crc32"
	"testing"

	"meridian/api"
	"meridian/frame"
)

// made is a record by another hand, that tells n bytes.
func made(n int, p []byte) []byte {
	b := binary.LittleEndian.AppendUint32(nil, uint32(n))
	b = binary.LittleEndian.AppendUint32(b, crc32.ChecksumIEEE(b))
	b = append(b, p...)
	return binary.LittleEndian.AppendUint32(b, crc32.ChecksumIEEE(b))
}

// P11.1: records, and how long they may be.
func TestEncode(t *testing.T) {
	if b, e := frame.Encode(); len(b) != 12 || e != api.OK || !bytes.Equal(b, made(0, nil)) {
		t.Error(b, e)
	}
	if b, e := frame.Encode([]byte("ab"), nil, []byte("c")); !bytes.Equal(b, made(3, []byte("abc"))) || e != api.OK {
		t.Error(b, e)
	}
	half := make([]byte, api.MaxFrame/2)
	if b, e := frame.Encode(half, half); len(b) != api.MaxFrame+12 || e != api.OK {
		t.Error(len(b), e)
	}
	if b, e := frame.Encode(half, half, []byte{1}); len(b) != 0 || e != api.ErrLong {
		t.Error(len(b), e)
	}
}

// P11.1: each error, in its order.
func TestDecodeErrs(t *testing.T) {
	good := made(3, []byte("abc"))
	turned := func(i int) []byte {
		b := bytes.Clone(good)
		b[i] ^= 1
		return b
	}
	for i, c := range []struct {
		b    []byte
		want api.Errno
	}{
		{nil, api.ErrShort},
		{good[:7], api.ErrShort},
		{turned(0)[:7], api.ErrShort},
		{turned(0), api.ErrSum},
		{turned(5)[:8], api.ErrSum},
		{made(api.MaxFrame+1, nil), api.ErrLong},
		{made(1<<32-1, nil), api.ErrLong},
		{made(api.MaxFrame, nil), api.ErrShort},
		{good[:8], api.ErrShort},
		{good[:14], api.ErrShort},
		{turned(9)[:14], api.ErrShort},
		{turned(9), api.ErrSum},
		{turned(14), api.ErrSum},
	} {
		p, n, e := frame.Decode(c.b)
		q, f := frame.One(c.b)
		all, m := frame.Scan(c.b)
		if len(p) != 0 || n != 0 || e != c.want || len(q) != 0 || f != c.want || len(all) != 0 || m != 0 {
			t.Error(i, e, f, m)
		}
	}
	if p, e := frame.One(append(bytes.Clone(good), 0)); len(p) != 0 || e != api.ErrForm {
		t.Error(e)
	}
}

// P11.2.
func TestScan(t *testing.T) {
	b := bytes.Join([][]byte{made(1, []byte("a")), made(0, nil), made(2, []byte("bc"))}, nil)
	for cut := range len(b) + 1 {
		want, most := 0, 0
		for i, end := range []int{13, 25, 39} {
			if cut >= end {
				want, most = i+1, end
			}
		}
		if all, n := frame.Scan(b[:cut]); len(all) != want || n != most {
			t.Error(cut, len(all), n)
		}
	}
	all, n := frame.Scan(append(bytes.Clone(b), 1, 2, 3))
	if len(all) != 3 || n != 39 || string(all[0]) != "a" || len(all[1]) != 0 || string(all[2]) != "bc" {
		t.Error(all, n)
	}
}

// P11.3: with anything behind it; one byte turned; new memory.
func TestThereAndBack(t *testing.T) {
	for n := range 70 {
		p := bytes.Repeat([]byte{byte(n)}, n)
		b, _ := frame.Encode(p[:n/2], p[n/2:])
		got, size, e := frame.Decode(append(bytes.Clone(b), "behind"...))
		one, f := frame.One(b)
		if !bytes.Equal(got, p) || size != len(b) || e != api.OK || !bytes.Equal(one, p) || f != api.OK {
			t.Fatal(n, e, f)
		}
		for i := range b {
			for _, by := range []byte{1, 0x80, 0xff, 0x55} {
				b[i] ^= by
				if _, _, e := frame.Decode(b); e == api.OK {
					t.Fatal(n, i, by)
				}
				b[i] ^= by
			}
		}
	}
}

func TestNothingIsShared(t *testing.T) {
	b := append(made(2, []byte("ab")), made(2, []byte("cd"))...)
	keep := bytes.Clone(b)
	all, _ := frame.Scan(b)
	one, _, _ := frame.Decode(b)
	_ = append(one, 'x', 'y', 'z', 'w')
	_ = append(all[0], 'x', 'y', 'z', 'w')
	one[0] = 'z'
	if !bytes.Equal(b, keep) || string(all[0]) != "ab" || string(all[1]) != "cd" {
		t.Error("shared")
	}
	row := []byte("abc")[:2]
	frame.Encode(row, []byte("x"))
	if string(row[:3]) != "abc" {
		t.Error("spare room changed")
	}
}
