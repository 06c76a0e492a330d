package disk_test

import (
	"bytes"
	"math"
	"math/rand"
	"slices"
	"strconv"
	"strings"
	"testing"

	"meridian/api"
	"meridian/disk"
)

func made(t *testing.T, room int) *disk.Disk {
	t.Helper()
	d, e := disk.New(room)
	if e != api.OK {
		t.Fatal(e)
	}
	return d
}

func ok(t *testing.T, e api.Errno) {
	t.Helper()
	if e != api.OK {
		t.Fatal(e)
	}
}

func is(t *testing.T, d *disk.Disk, name, want string) {
	t.Helper()
	if p, e := d.Read(name); string(p) != want || e != api.OK {
		t.Errorf("%s: %q %d", name, p, e)
	}
}

// P12.1: rooms, names, a burnt fuse ahead of all else.
func TestNewAndNames(t *testing.T) {
	for _, room := range []int{-1, 1<<30 + 1, math.MaxInt, math.MinInt} {
		if d, e := disk.New(room); d != nil || e != api.ErrArg {
			t.Error(room, e)
		}
	}
	made(t, 0)
	made(t, 1<<30)
	d := made(t, 100)
	ok(t, d.Write(strings.Repeat("n", 64), nil))
	for _, name := range []string{"", strings.Repeat("n", 65)} {
		for i, e := range []api.Errno{d.Write(name, make([]byte, 999)), d.Sync(name), d.Cut(name, 0), d.Rename(name, "a"), d.Rename("none", name), d.Remove(name)} {
			if e != api.ErrArg {
				t.Error(i, e)
			}
		}
		if _, e := d.Read(name); e != api.ErrNone {
			t.Error(e)
		}
	}
	d.Fuse(0)
	for i, e := range []api.Errno{d.Write("", make([]byte, 999)), d.Sync("none"), d.Cut("", -1), d.Rename("", ""), d.Remove("")} {
		if e != api.ErrDead {
			t.Error(i, e)
		}
	}
}

// P12.2: room, how many files, what is cut.
func TestWriteSyncCut(t *testing.T) {
	d := made(t, 10)
	ok(t, d.Write("a", []byte("1234")))
	ok(t, d.Write("b", nil))
	is(t, d, "b", "")
	if e := d.Write("b", []byte("1234567")); e != api.ErrFull || d.Used() != 4 {
		t.Error(e)
	}
	if e := d.Write("c", []byte("1234567")); e != api.ErrFull || len(d.Names()) != 2 {
		t.Error(e)
	}
	ok(t, d.Write("b", []byte("567890")))
	is(t, d, "b", "567890")
	if d.Sync("c") != api.ErrNone || d.Cut("c", -1) != api.ErrNone || d.Cut("a", -1) != api.ErrArg || d.Cut("a", 5) != api.ErrArg || d.Cut("a", math.MaxInt) != api.ErrArg {
		t.Error("errors")
	}
	ok(t, d.Cut("a", 4))
	ok(t, d.Cut("a", 1))
	is(t, d, "a", "1")
	if d.Used() != 7 {
		t.Error(d.Used())
	}
	ok(t, d.Sync("b"))
	ok(t, d.Cut("b", 2))
	ok(t, d.Write("b", []byte("xy")))
	d.Crash(0, 0)
	is(t, d, "b", "56")
	is(t, d, "a", "")
	d = made(t, 10)
	for i := range api.MaxFiles {
		ok(t, d.Write(strconv.Itoa(i), nil))
	}
	if d.Write("one more", nil) != api.ErrFull || d.Write("7", []byte("x")) != api.OK {
		t.Error("too many files")
	}
}

// P12.3.
func TestRenameAndRemove(t *testing.T) {
	d := made(t, 100)
	if d.Rename("a", "b") != api.ErrNone || d.Remove("a") != api.ErrNone || d.Rename("a", "a") != api.ErrNone {
		t.Error("none")
	}
	ok(t, d.Write("b", []byte("old")))
	ok(t, d.Write("a", []byte("ab")))
	ok(t, d.Sync("a"))
	ok(t, d.Write("a", []byte("cd")))
	ok(t, d.Rename("a", "b"))
	if !slices.Equal(d.Names(), []string{"b"}) || d.Used() != 4 {
		t.Error(d.Names(), d.Used())
	}
	ok(t, d.Rename("b", "b"))
	is(t, d, "b", "abcd")
	ok(t, d.Rename("b", "z"))
	d.Crash(1, 0)
	is(t, d, "z", "abc")
	ok(t, d.Remove("z"))
	if _, e := d.Read("z"); e != api.ErrNone || d.Used() != 0 {
		t.Error(e)
	}
}

// P12.4.
func TestFuse(t *testing.T) {
	d := made(t, 3)
	d.Fuse(3)
	ok(t, d.Write("a", []byte("x")))
	if d.Write("a", []byte("long")) != api.ErrFull || d.Sync("b") != api.ErrNone {
		t.Error("what errs burns nothing")
	}
	ok(t, d.Rename("a", "a"))
	ok(t, d.Sync("a"))
	if d.Sync("a") != api.ErrDead || d.Remove("a") != api.ErrDead {
		t.Error("burnt")
	}
	is(t, d, "a", "x")
	d.Fuse(1)
	ok(t, d.Sync("a"))
	d.Fuse(math.MinInt)
	ok(t, d.Sync("a"))
	d.Fuse(0)
	c := d.Copy()
	ok(t, c.Write("a", []byte("y")))
	if c.Write("a", []byte("yz")) != api.ErrFull {
		t.Error("another room")
	}
	d.Crash(0, 0)
	ok(t, d.Sync("a"))
	is(t, d, "a", "x")
}

// P12.5: the example, torn sectors, each file by itself.
func TestCrash(t *testing.T) {
	d := made(t, 1000)
	ok(t, d.Write("a", []byte("1234")))
	ok(t, d.Sync("a"))
	ok(t, d.Write("a", []byte("56")))
	ok(t, d.Write("b", []byte("123456789")))
	c := d.Copy()
	d.Crash(1, 1)
	is(t, d, "a", "12344")
	is(t, d, "b", "0")
	c.Crash(14, 0)
	is(t, c, "a", "123456")
	is(t, c, "b", "1234")
	for _, keep := range []int{-1, math.MinInt} {
		e := made(t, 10)
		ok(t, e.Write("a", []byte("xyz")))
		e.Crash(keep, 9)
		is(t, e, "a", "")
	}
	for stays := range 50 {
		for lasts := range stays + 1 {
			e := made(t, 100)
			p := bytes.Repeat([]byte("."), 50)
			ok(t, e.Write("a", p[:lasts]))
			ok(t, e.Sync("a"))
			ok(t, e.Write("a", p[lasts:]))
			e.Crash(stays-lasts, 0xff)
			want := bytes.Repeat([]byte("."), stays)
			for i := range want {
				if i >= lasts && i/16 == (stays-1)/16 {
					want[i] ^= 0xff
				}
			}
			is(t, e, "a", string(want))
			e.Crash(0, 1)
			is(t, e, "a", string(want))
			if e.Used() != stays {
				t.Error(e.Used())
			}
		}
	}
}

// P12.6, P12.7: against files kept in the plainest way.
func TestAgainstPlain(t *testing.T) {
	type plain struct {
		data  string
		lasts int
	}
	r := rand.New(rand.NewSource(12))
	for range 200 {
		d := made(t, 60)
		files := map[string]plain{}
		used := func() int {
			n := 0
			for _, f := range files {
				n += len(f.data)
			}
			return n
		}
		for range 60 {
			name, other := string(rune('a'+r.Intn(5))), string(rune('a'+r.Intn(5)))
			f, has := files[name]
			want, got := api.ErrNone, api.OK
			switch r.Intn(7) {
			case 0, 1:
				p := strings.Repeat(strconv.Itoa(r.Intn(10)), r.Intn(20))
				got, want = d.Write(name, []byte(p)), api.ErrFull
				if used()+len(p) <= 60 {
					want, files[name] = api.OK, plain{f.data + p, f.lasts}
				}
			case 2:
				if got = d.Sync(name); has {
					want, files[name] = api.OK, plain{f.data, len(f.data)}
				}
			case 3:
				n := r.Intn(20)
				if got = d.Cut(name, n); has && n > len(f.data) {
					want = api.ErrArg
				} else if has {
					want, files[name] = api.OK, plain{f.data[:n], min(n, f.lasts)}
				}
			case 4:
				if got = d.Rename(name, other); has {
					want = api.OK
					delete(files, name)
					files[other] = f
				}
			case 5:
				if got = d.Remove(name); has {
					want = api.OK
					delete(files, name)
				}
			case 6:
				want = api.OK
				if r.Intn(3) > 0 {
					d = d.Copy()
					continue
				}
				keep := r.Intn(30)
				d.Crash(keep, 0)
				for name, f := range files {
					n := f.lasts + keep%(len(f.data)-f.lasts+1)
					files[name] = plain{f.data[:n], n}
				}
			}
			var names []string
			for name, f := range files {
				names = append(names, name)
				is(t, d, name, f.data)
			}
			slices.Sort(names)
			if got != want || !slices.Equal(names, d.Names()) || d.Used() != used() {
				t.Fatal(got, want, names, d.Names())
			}
		}
	}
}

// P12.7: nothing kept, nothing shared; a nil Disk.
func TestNothingIsShared(t *testing.T) {
	d := made(t, 100)
	p := []byte("abcd")
	ok(t, d.Write("a", p[:2]))
	p[0] = 'x'
	got, _ := d.Read("a")
	got[1] = 'y'
	_ = append(got, "zz"...)
	c := d.Copy()
	ok(t, c.Write("a", []byte("more")))
	ok(t, d.Write("a", []byte("cd")))
	is(t, d, "a", "abcd")
	is(t, c, "a", "abmore")
	names := d.Names()
	names[0] = "q"
	if !slices.Equal(d.Names(), []string{"a"}) || string(p) != "xbcd" {
		t.Error("shared")
	}
	var none *disk.Disk
	for i, e := range []api.Errno{none.Write("a", nil), none.Sync("a"), none.Cut("a", 0), none.Rename("a", "b"), none.Remove("a")} {
		if e != api.ErrArg {
			t.Error(i, e)
		}
	}
	none.Fuse(1)
	none.Crash(1, 1)
	if p, e := none.Read("a"); len(p) != 0 || e != api.ErrNone || len(none.Names()) != 0 || none.Used() != 0 || none.Copy() != nil {
		t.Error("nil")
	}
}
