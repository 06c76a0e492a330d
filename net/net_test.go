package net_test

import (
	"math"
	"slices"
	"strings"
	"testing"

	"meridian/api"
	"meridian/net"
)

func msg(s string) api.Msg { return api.Msg{From: 1, To: 2, Data: []byte(s)} }

func made(s ...string) *net.Net {
	n := net.New()
	for _, x := range s {
		n.Send(msg(x))
	}
	return n
}

// rest takes all that is there.
func rest(n *net.Net) string {
	var out []string
	for {
		m, ok := n.Give(0)
		if !ok {
			return strings.Join(out, " ")
		}
		out = append(out, string(m.Data))
	}
}

func full() *net.Net {
	n := net.New()
	l := make([]api.Msg, api.MaxFlight+5)
	for i := range l {
		l[i] = msg(string(rune('a' + i%26)))
	}
	if n.Send(l[:3]...) != 3 || n.Send(l[3:]...) != api.MaxFlight-3 || n.Send(l...) != 0 || n.Len() != api.MaxFlight {
		panic("full")
	}
	return n
}

// P19.1: sends, picks, gives.
func TestSendAndGive(t *testing.T) {
	n := net.New()
	if n.Len() != 0 || n.Send() != 0 || n.Send(msg("a"), api.Msg{From: 5, To: -7, Data: nil}) != 2 || n.Len() != 2 {
		t.Error("sends")
	}
	if m, ok := n.Give(0); !ok || m.From != 1 || m.To != 2 || string(m.Data) != "a" {
		t.Error(m, ok)
	}
	if m, ok := n.Give(0); !ok || m.From != 5 || m.To != -7 || len(m.Data) != 0 {
		t.Error(m, ok)
	}
	if m, ok := n.Give(0); ok || m.From != 0 || m.To != 0 || m.Data != nil {
		t.Error(m, ok)
	}
	for _, c := range []struct {
		pick int
		want string
	}{{0, "a"}, {1, "b"}, {2, "c"}, {3, "a"}, {7, "b"}, {-1, "a"}, {math.MinInt, "a"}, {math.MaxInt, "b"}} {
		n := made("a", "b", "c")
		if m, ok := n.Give(c.pick); !ok || string(m.Data) != c.want || n.Len() != 2 {
			t.Error(c, m)
		}
	}
	n = full()
	n.Give(5)
	if n.Send(msg("x"), msg("y")) != 1 || n.Len() != api.MaxFlight {
		t.Error("room for one")
	}
}

func TestTwiceAndLate(t *testing.T) {
	n := made("a", "b", "c")
	if !n.Twice(4) || rest(n) != "a b c b" {
		t.Error("Twice")
	}
	n = made("a", "b", "c")
	if !n.Late(0) || !n.Late(-3) || rest(n) != "c a b" {
		t.Error("Late")
	}
	n = made("a", "b")
	n.Late(0)
	if m, _ := n.Give(0); string(m.Data) != "b" {
		t.Error("the example")
	}
	n = full()
	if n.Twice(0) || !n.Late(0) || n.Len() != api.MaxFlight {
		t.Error("full")
	}
	n = net.New()
	if n.Twice(0) || n.Late(0) || n.Spoil(0, 0, 1) || n.Drop(1) != 0 {
		t.Error("without a message")
	}
}

// P19.1: what is spoilt, once, doubles too.
func TestSpoil(t *testing.T) {
	n := made("abc", "", "abc")
	if n.Spoil(0, 0, 0) || n.Spoil(1, 0, 1) || !n.Spoil(0, 4, 1) || n.Spoil(0, 0, 1) || n.Spoil(3, 0, 1) {
		t.Error("Spoil")
	}
	n.Twice(0)
	n.Late(0)
	if n.Spoil(3, 0, 1) || n.Spoil(2, 0, 1) || !n.Spoil(1, math.MinInt, 0x20) {
		t.Error("doubles")
	}
	if got := rest(n); got != " Abc acc acc" {
		t.Errorf("%q", got)
	}
	n = made("abc")
	n.Twice(0)
	if !n.Spoil(0, math.MaxInt, 1) || rest(n) != "a"+"cc abc" {
		t.Error("a double has bytes of its own")
	}
}

func TestDrop(t *testing.T) {
	n := net.New()
	for _, m := range [][2]int{{0, 1}, {1, 2}, {2, 0}, {3, 4}, {4, 3}, {9, 9}} {
		n.Send(api.Msg{From: m[0], To: m[1]})
	}
	if n.Drop() != 0 || n.Drop(7, -1) != 0 || n.Drop(1) != 2 || n.Drop(4, 3, 4) != 2 || n.Len() != 2 {
		t.Error(n.Len())
	}
	a, _ := n.Give(0)
	b, _ := n.Give(0)
	if a.From != 2 || b.From != 9 {
		t.Error(a, b)
	}
}

// P19.2.
func TestNothingIsShared(t *testing.T) {
	n := net.New()
	p := []byte("abcd")
	n.Send(api.Msg{Data: p[:3]}, api.Msg{Data: p[1:]})
	p[1] = 'x'
	n.Spoil(0, 0, 1)
	n.Twice(1)
	a, _ := n.Give(1)
	a.Data[0] = 'y'
	_ = append(a.Data, 'z')
	if got := rest(n); got != "`bc bcd" || !slices.Equal(p, []byte("axcd")) {
		t.Errorf("%q %q", got, p)
	}
	var none *net.Net
	m, ok := none.Give(0)
	if ok || m.Data != nil || none.Send(msg("a")) != 0 || none.Twice(0) || none.Late(0) || none.Spoil(0, 0, 1) || none.Len() != 0 || none.Drop(1) != 0 {
		t.Error("nil")
	}
}
