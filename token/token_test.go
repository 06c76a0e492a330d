package token_test

import (
	"hash/crc32"
	"math"
	"math/rand"
	"strconv"
	"strings"
	"testing"

	"meridian/api"
	"meridian/hlc"
	"meridian/token"
)

func st(milli, count int) api.Stamp { return api.Stamp{Milli: milli, Count: count} }

// P22.1: the greatest, of any numbers.
func TestSaw(t *testing.T) {
	var x token.Token
	for _, c := range []struct {
		l    []api.Stamp
		want api.Stamp
	}{
		{nil, st(0, 0)}, {[]api.Stamp{st(-1, 5)}, st(0, 0)}, {[]api.Stamp{st(3, 1), st(3, 2), st(2, 9)}, st(3, 2)}, {[]api.Stamp{st(3, 1)}, st(3, 2)},
		{[]api.Stamp{st(math.MinInt, 0)}, st(3, 2)}, {[]api.Stamp{st(math.MaxInt, -1)}, st(math.MaxInt, -1)},
	} {
		if x.Saw(c.l...); x.Seen != c.want {
			t.Error(c, x)
		}
	}
	var none *token.Token
	none.Saw(st(1, 1))
	low := token.Token{Seen: st(-5, -5)}
	if low.Saw(); low.Seen != st(-5, -5) {
		t.Error(low)
	}
}

// P22.1: texts; what is none.
func TestPrint(t *testing.T) {
	s, e := token.Token{Seen: st(1, 2)}.Print()
	head := "m0000000000010002"
	sum := strconv.FormatUint(uint64(crc32.ChecksumIEEE([]byte(head))), 16)
	if s != head+"-"+strings.Repeat("0", 8-len(sum))+sum || e != api.OK {
		t.Error(s, e)
	}
	if s, e := (token.Token{Seen: st(api.MaxMilli, api.MaxCount)}).Print(); !strings.HasPrefix(s, "mffffffffffffffff-") || len(s) != 26 || e != api.OK {
		t.Error(s, e)
	}
	for _, x := range []api.Stamp{st(-1, 0), st(0, -1), st(api.MaxMilli+1, 0), st(0, api.MaxCount+1), st(math.MinInt, math.MaxInt)} {
		if s, e := (token.Token{Seen: x}).Print(); s != "" || e != api.ErrArg {
			t.Error(x, s, e)
		}
	}
}

// P22.1, P22.2: one byte that is another one, any text.
func TestParse(t *testing.T) {
	r := rand.New(rand.NewSource(22))
	for range 300 {
		x := token.Token{Seen: hlc.Unpack(r.Uint64() >> r.Intn(64))}
		s, e := x.Print()
		back, f := token.Parse(s)
		if e != api.OK || f != api.OK || back != x {
			t.Fatal(x, s, back, e, f)
		}
		b := []byte(s)
		i := r.Intn(len(b))
		for by := range 256 {
			if byte(by) == s[i] {
				continue
			}
			b[i] = byte(by)
			if x, e := token.Parse(string(b)); e != api.ErrSyntax || x != (token.Token{}) {
				t.Fatal(string(b), x, e)
			}
		}
	}
	good, _ := token.Token{Seen: st(1, 2)}.Print()
	for _, s := range []string{"", "m", good[1:], good[:25], good + "0", " " + good, strings.ToUpper(good), "M" + good[1:], good[:17] + "+" + good[18:], "m+000000000010002" + good[17:], "m0x00000000010002" + good[17:], "m0_00000000010002" + good[17:]} {
		if x, e := token.Parse(s); e != api.ErrSyntax || x != (token.Token{}) {
			t.Errorf("%q: %v %d", s, x, e)
		}
	}
	for n := range 200 {
		if _, e := token.Parse(strings.Repeat("m", n)); e != api.ErrSyntax {
			t.Error(n, e)
		}
	}
}
