package agree_test

import (
	"math"
	"math/rand"
	"slices"
	"testing"

	"meridian/agree"
	"meridian/api"
)

func of(n ...int) []api.Interval {
	var l []api.Interval
	for i := 0; i+1 < len(n); i += 2 {
		l = append(l, api.Interval{Low: n[i], High: n[i+1]})
	}
	return l
}

// slow is P7.1 by trying each number of -2 to 30.
func slow(l []api.Interval) (api.Interval, int) {
	in := func(x int) (string, int) {
		s, n := "", 0
		for _, i := range l {
			if i.Low <= x && x <= i.High {
				s, n = s+"1", n+1
			} else {
				s += "0"
			}
		}
		return s, n
	}
	var common api.Interval
	most, who := 0, ""
	for x := -2; x <= 30; x++ {
		s, n := in(x)
		if n > most {
			most, who, common = n, s, api.Interval{Low: x, High: x}
		} else if n > 0 && s == who && common.High == x-1 {
			common.High = x
		}
	}
	return common, most
}

// P7.1, P7.2: against trying all numbers; P7.3: in any order, and unchanged.
func TestAgainstSlow(t *testing.T) {
	r := rand.New(rand.NewSource(7))
	for range 20000 {
		var l []api.Interval
		for range r.Intn(7) {
			low := r.Intn(20)
			l = append(l, api.Interval{Low: low, High: low + r.Intn(9) - 2})
		}
		keep := slices.Clone(l)
		want, n := slow(l)
		got, m := agree.Most(l...)
		if got != want || n != m {
			t.Fatal(l, got, m, want, n)
		}
		r.Shuffle(len(l), func(i, j int) { l[i], l[j] = l[j], l[i] })
		if again, k := agree.Most(l...); again != got || k != m {
			t.Fatal("another order", l)
		}
		common, e := agree.Majority(keep...)
		if n*2 > len(l) && (common != want || e != api.OK) || n*2 <= len(l) && (common != (api.Interval{}) || e != api.ErrNone) {
			t.Fatal(l, common, e)
		}
	}
}

func TestExamplesAndEdges(t *testing.T) {
	for _, c := range []struct {
		l    []api.Interval
		want api.Interval
		n    int
	}{
		{of(1, 5, 4, 8, 7, 9), api.Interval{Low: 4, High: 5}, 2},
		{nil, api.Interval{}, 0},
		{of(2, 1), api.Interval{}, 0},
		{of(math.MaxInt, math.MinInt), api.Interval{}, 0},
		{of(math.MinInt, math.MaxInt), api.Interval{Low: math.MinInt, High: math.MaxInt}, 1},
		{of(math.MinInt, math.MaxInt, math.MaxInt, math.MaxInt), api.Interval{Low: math.MaxInt, High: math.MaxInt}, 2},
		{of(math.MinInt, math.MinInt, math.MinInt, 0), api.Interval{Low: math.MinInt, High: math.MinInt}, 2},
		{of(1, 3, 4, 6), api.Interval{Low: 1, High: 3}, 1},
		{of(1, 5, 1, 5, 1, 5), api.Interval{Low: 1, High: 5}, 3},
		{of(5, 9, 1, 3, 6, 7, 2, 4), api.Interval{Low: 2, High: 3}, 2},
	} {
		if got, n := agree.Most(c.l...); got != c.want || n != c.n {
			t.Error(c.l, got, n)
		}
	}
	if x, e := agree.Majority(of(1, 5, 4, 8, 9, 1)...); x != (api.Interval{Low: 4, High: 5}) || e != api.OK {
		t.Error(x, e)
	}
	if x, e := agree.Majority(of(1, 5, 4, 8, 9, 1, 9, 1)...); x != (api.Interval{}) || e != api.ErrNone {
		t.Error("half is not more than half", x, e)
	}
	if _, e := agree.Majority(); e != api.ErrNone {
		t.Error(e)
	}
}
