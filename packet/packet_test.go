package packet_test

import (
	"bytes"
	"encoding/binary"
	"math"
	"testing"

	"meridian/api"
	"meridian/packet"
)

func sample() packet.Packet {
	return packet.Packet{Leap: 3, Mode: 4, Stratum: 200, RootDelay: 0x01020304, RootError: 0xf5f6f7f8, Origin: 0x1112131415161718, Receive: 0x2122232425262728, Transmit: 0xf1f2f3f4f5f6f7f8}
}

// P6.1: each byte at its place.
func TestEncode(t *testing.T) {
	b, e := packet.Encode(sample())
	want := make([]byte, 48)
	want[0], want[1] = 0xe4, 200
	binary.BigEndian.PutUint32(want[4:], 0x01020304)
	binary.BigEndian.PutUint32(want[8:], 0xf5f6f7f8)
	binary.BigEndian.PutUint64(want[24:], 0x1112131415161718)
	binary.BigEndian.PutUint64(want[32:], 0x2122232425262728)
	binary.BigEndian.PutUint64(want[40:], 0xf1f2f3f4f5f6f7f8)
	if !bytes.Equal(b, want) || e != api.OK {
		t.Errorf("%x %d", b, e)
	}
	if b, e := packet.Encode(packet.Packet{Mode: 3}); e != api.OK || b[0] != 35 || !bytes.Equal(b[1:], make([]byte, 47)) {
		t.Errorf("%x %d", b, e)
	}
}

func TestEncodeErrs(t *testing.T) {
	for i, change := range []func(p *packet.Packet){
		func(p *packet.Packet) { p.Leap = -1 }, func(p *packet.Packet) { p.Leap = 4 },
		func(p *packet.Packet) { p.Mode = 2 }, func(p *packet.Packet) { p.Mode = 5 },
		func(p *packet.Packet) { p.Stratum = -1 }, func(p *packet.Packet) { p.Stratum = 256 },
		func(p *packet.Packet) { p.RootDelay = -1 }, func(p *packet.Packet) { p.RootDelay = 1 << 32 },
		func(p *packet.Packet) { p.RootError = -1 }, func(p *packet.Packet) { p.RootError = 1 << 32 },
		func(p *packet.Packet) { p.RootError = math.MinInt }, func(p *packet.Packet) { p.Leap = math.MaxInt },
	} {
		p := sample()
		change(&p)
		if b, e := packet.Encode(p); len(b) != 0 || e != api.ErrArg {
			t.Error(i, b, e)
		}
	}
}

// P6.2: what is none.
func TestDecodeErrs(t *testing.T) {
	good, _ := packet.Encode(sample())
	for n := range 100 {
		want := api.OK
		if n < 48 {
			want = api.ErrShort
		} else if n > 48 {
			want = api.ErrLong
		}
		b := append(bytes.Clone(good), make([]byte, 60)...)[:n]
		if p, e := packet.Decode(b); e != want || e != api.OK && p != (packet.Packet{}) {
			t.Error(n, e)
		}
	}
	if _, e := packet.Decode(nil); e != api.ErrShort {
		t.Error(e)
	}
	for i := range 48 {
		for by := 1; by < 256; by++ {
			b := bytes.Clone(good)
			b[i] ^= byte(by)
			p, e := packet.Decode(b)
			back, _ := packet.Encode(p)
			nought := i == 2 || i == 3 || i >= 12 && i < 24
			head := i == 0 && b[0]&0x3f != 35 && b[0]&0x3f != 36
			if nought || head {
				if e != api.ErrForm || p != (packet.Packet{}) {
					t.Error(i, by, e)
				}
			} else if e != api.OK || !bytes.Equal(back, b) {
				t.Error(i, by, e)
			}
		}
	}
}

// P6.3: there and back; nothing kept or changed.
func TestThereAndBack(t *testing.T) {
	for _, p := range []packet.Packet{{Mode: 3}, {Mode: 4, Stratum: 1}, sample(), {Leap: 1, Mode: 3, Stratum: 255, RootDelay: 1<<32 - 1, RootError: 1<<32 - 1, Origin: math.MaxUint64}} {
		b, _ := packet.Encode(p)
		keep := bytes.Clone(b)
		got, e := packet.Decode(b)
		if got != p || e != api.OK || !bytes.Equal(b, keep) {
			t.Error(p, got, e)
		}
		other, _ := packet.Encode(p)
		b[0], b[47] = 1, 1
		if !bytes.Equal(other, keep) {
			t.Error("shared")
		}
	}
}
