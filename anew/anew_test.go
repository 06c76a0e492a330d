package anew_test

import (
	"bytes"
	"slices"
	"testing"

	"meridian/anew"
	"meridian/api"
	"meridian/disk"
	"meridian/frame"
)

func made(t *testing.T) *disk.Disk {
	t.Helper()
	d, e := disk.New(100)
	if e != api.OK {
		t.Fatal(e)
	}
	return d
}

func TestThereAndBack(t *testing.T) {
	d := made(t)
	if n, e := anew.Read(d, "n", 9); n != 0 || e != api.OK {
		t.Error("without the file", n, e)
	}
	for _, n := range []int{0, 5, 300, 1 << 40} {
		if e := anew.Write(d, "n", n); e != api.OK || !slices.Equal(d.Names(), []string{"n"}) {
			t.Fatal(n, e, d.Names())
		}
		d.Crash(0, 0)
		if m, e := anew.Read(d, "n", n); m != n || e != api.OK {
			t.Error(n, m, e)
		}
		if m, e := anew.Read(d, "n", n-1); m != 0 || e != api.ErrForm {
			t.Error("too much", n, m, e)
		}
	}
}

func TestNone(t *testing.T) {
	framed := func(p ...byte) []byte {
		b, _ := frame.Encode(p)
		return b
	}
	for i, b := range [][]byte{nil, {1}, framed(), framed(1, 1), framed(0x80, 0), append(framed(1), 0)} {
		d := made(t)
		d.Write("n", b)
		if n, e := anew.Read(d, "n", 99); n != 0 || e != api.ErrForm {
			t.Error(i, n, e)
		}
	}
}

// Wherever the fuse burns, the elder number is there, or the next one.
func TestFuses(t *testing.T) {
	for fuse := range 6 {
		d := made(t)
		anew.Write(d, "n", 7)
		d.Write("n~", []byte("left over"))
		d.Fuse(fuse)
		e := anew.Write(d, "n", 8)
		want, left := 7, api.ErrDead
		if fuse >= 4 { // Remove, Write, Sync, Rename
			want, left = 8, api.OK
		}
		d.Crash(fuse, 1)
		if n, f := anew.Read(d, "n", 99); n != want || e != left || f != api.OK {
			t.Error(fuse, n, e, f)
		}
	}
	d := made(t)
	anew.Write(d, "n", 7)
	d.Write("filler", make([]byte, 100-d.Used()-12))
	before, _ := d.Read("n")
	if e := anew.Write(d, "n", 8); e != api.ErrFull {
		t.Error(e)
	}
	if b, _ := d.Read("n"); !bytes.Equal(b, before) {
		t.Error("changed")
	}
}
