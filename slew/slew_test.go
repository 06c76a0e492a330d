package slew_test

import (
	"math"
	"math/rand"
	"testing"

	"meridian/api"
	"meridian/slew"
)

func made(t *testing.T, count, tai int) *slew.Clock {
	t.Helper()
	c, e := slew.New(count, tai)
	if e != api.OK || c == nil || c.Left() != 0 {
		t.Fatal(e)
	}
	return c
}

// P8.1.
func TestNew(t *testing.T) {
	for _, n := range [][2]int{{-1, 0}, {0, -1}, {0, 1<<62 + 1}, {math.MinInt, 0}, {0, math.MaxInt}, {0, math.MinInt}} {
		if c, e := slew.New(n[0], n[1]); c != nil || e != api.ErrArg {
			t.Error(n, e)
		}
	}
	for _, n := range [][2]int{{0, 0}, {math.MaxInt, 1 << 62}, {7, 9}} {
		if c := made(t, n[0], n[1]); c.Read(n[0]) != n[1] || c.Read(math.MinInt) != n[1] {
			t.Error(n)
		}
	}
}

// P8.2: a count that goes on, stands, goes back; held at the end of all numbers.
func TestRead(t *testing.T) {
	c := made(t, 10, 100)
	for _, s := range [][2]int{{15, 105}, {15, 105}, {12, 105}, {-5, 105}, {16, 106}} {
		if n := c.Read(s[0]); n != s[1] {
			t.Error(s, n)
		}
	}
	c = made(t, 0, 1<<62)
	if n := c.Read(math.MaxInt); n != math.MaxInt {
		t.Error(n)
	}
	c = made(t, 0, 0)
	c.Turn(0, 999)
	if n := c.Read(1999); n != 1999 || c.Left() != 999 {
		t.Error("less than a part", n)
	}
	if n := c.Read(1999 + 1999); n != 1999+1999 || c.Left() != 999 {
		t.Error("parts that are not whole are not summed", n)
	}
	if n := c.Read(1999 + 1999 + 4000); n != 1999+1999+4002 || c.Left() != 997 {
		t.Error(n, c.Left())
	}
}

// P8.3: the example, steps, what errs.
func TestTurn(t *testing.T) {
	c := made(t, 0, 0)
	if step, e := c.Turn(0, 500); step || e != api.OK || c.Left() != 500 {
		t.Error(step, e)
	}
	if a, b := c.Read(1000000), c.Read(2000000); a != 1000500 || b != 2000500 || c.Left() != 0 {
		t.Error(a, b)
	}
	c.Turn(2000000, -500)
	if n := c.Read(2400000); n != 2400300 || c.Left() != -300 {
		t.Error(n, c.Left())
	}
	if n := c.Read(9000000); n != 9000000 || c.Left() != 0 {
		t.Error(n)
	}
	for _, behind := range []int{0, api.Second} {
		c = made(t, 0, 0)
		c.Turn(0, 700)
		c.Turn(1000000, behind)
		if n := c.Read(1000000); n != 1000500+behind || c.Left() != 0 {
			t.Error("what was left is turned up to the count first", n, c.Left())
		}
	}
	c = made(t, 0, 1000)
	c.Turn(0, 77)
	if step, e := c.Turn(5, api.Second); !step || e != api.OK || c.Left() != 0 || c.Read(5) != 1005+api.Second {
		t.Error(step, e, c.Left(), c.Read(5))
	}
	if step, e := c.Turn(5, api.Second-1); step || e != api.OK || c.Left() != api.Second-1 {
		t.Error(step, e)
	}
	if step, e := c.Turn(5, -1<<62); step || e != api.OK || c.Left() != -1<<62 {
		t.Error(step, e)
	}
	for _, n := range []int{1<<62 + 1, -1<<62 - 1, math.MaxInt, math.MinInt} {
		if step, e := c.Turn(50, n); step || e != api.ErrArg || c.Left() != -1<<62 || c.Read(5) != 1005+api.Second {
			t.Error(n, step, e)
		}
	}
	if step, _ := c.Turn(5, 1<<62); !step {
		t.Error("no step")
	}
	if c.Turn(5, 1<<62); c.Read(5) != math.MaxInt {
		t.Error("held")
	}
}

// P8.4: never back, no more than one part; a nil one.
func TestNeverBack(t *testing.T) {
	r := rand.New(rand.NewSource(8))
	for range 200 {
		c := made(t, 0, r.Intn(1000))
		count, last := 0, c.Read(0)
		for range 100 {
			if r.Intn(4) == 0 {
				behind := r.Intn(20000000) - 10000000
				c.Turn(count, behind)
				if n := c.Read(count); n != last {
					t.Fatal("turned at once", n, last)
				}
			}
			gone := r.Intn(1000000)
			left := c.Left()
			count += gone
			n := c.Read(count)
			turned := n - last - gone
			if n < last || turned != left-c.Left() || max(turned, -turned) > gone/2000 || turned*left < 0 {
				t.Fatal(last, n, gone, left, c.Left())
			}
			last = n
		}
	}
	var none *slew.Clock
	if step, e := none.Turn(0, 0); step || e != api.ErrArg || none.Read(5) != 0 || none.Left() != 0 {
		t.Error("nil")
	}
}
