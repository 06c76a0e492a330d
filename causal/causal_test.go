package causal_test

import (
	"bytes"
	"math"
	"math/rand"
	"strconv"
	"strings"
	"testing"

	"meridian/api"
	"meridian/causal"
	"meridian/leap"
	"meridian/world"
)

func st(m, c int) api.Stamp { return api.Stamp{Milli: m, Count: c} }

func put(node int, key, value string, ttl int, seen, at api.Stamp) causal.Event {
	return causal.Event{Who: 7, Step: world.Step{Kind: world.StepPut, Node: node, Key: key, Value: []byte(value), N: ttl, Seen: seen}, Answer: world.Answer{Stamp: at}}
}

func del(node int, key string, at api.Stamp) causal.Event {
	return causal.Event{Step: world.Step{Kind: world.StepDel, Node: node, Key: key, Value: []byte("no"), N: 9}, Answer: world.Answer{Stamp: at}}
}

func snap(node, n int, seen, at api.Stamp) causal.Event {
	return causal.Event{Step: world.Step{Kind: world.StepSnap, Node: node, Seen: seen}, Answer: world.Answer{N: n, Stamp: at}}
}

func get(node, n int, key string, found bool, value string) causal.Event {
	return causal.Event{Step: world.Step{Kind: world.StepGet, Node: node, N: n, Key: key}, Answer: world.Answer{Found: found, Value: []byte(value)}}
}

func scan(node, n int, from, to string, most int, pairs ...string) causal.Event {
	e := causal.Event{Step: world.Step{Kind: world.StepScan, Node: node, N: n, Key: from, To: to, M: most}}
	for _, p := range pairs {
		k, v, _ := strings.Cut(p, "=")
		e.Answer.Pairs = append(e.Answer.Pairs, api.Pair{Key: k, Value: []byte(v)})
	}
	return e
}

func dead(e causal.Event) causal.Event {
	e.Answer = world.Answer{Err: api.ErrDead}
	return e
}

func erred(e causal.Event, n api.Errno) causal.Event {
	e.Answer.Err = n
	return e
}

// check holds l to be fine up to the event numbered want, which can't be (below 0: all of it is fine).
func check(t *testing.T, name string, want int, l ...causal.Event) {
	t.Helper()
	n, bad := causal.Check(l)
	if bad != (want >= 0) || n != max(want, 0) {
		t.Error(name, n, bad)
	}
}

// P25.1.
func TestWrites(t *testing.T) {
	l := causal.Writes([]causal.Event{
		put(2, "k", "v", 5, st(1, 1), st(3, 4)), snap(0, 0, st(0, 0), st(9, 9)), del(1, "j", st(5, 6)),
		dead(put(0, "k", "w", 6, st(0, 0), st(8, 8))), erred(put(0, "k", "x", 0, st(0, 0), st(8, 8)), api.ErrFull), dead(del(3, "m", st(8, 8))), dead(snap(0, 0, st(0, 0), st(0, 0))), {},
	})
	want := []causal.Write{
		{Who: 7, Key: "k", V: api.Version{Stamp: st(3, 4), Origin: 2, Value: []byte("v"), TTL: 5}},
		{Key: "j", V: api.Version{Stamp: st(5, 6), Origin: 1, Gone: true}},
		{Who: 7, Key: "k", V: api.Version{Origin: 0, Value: []byte("w"), TTL: 6}, Unsure: true},
		{Key: "m", V: api.Version{Origin: 3, Gone: true}, Unsure: true},
	}
	if len(l) != len(want) {
		t.Fatal(l)
	}
	for i, w := range want {
		g := l[i]
		if g.Who != w.Who || g.Key != w.Key || g.Unsure != w.Unsure || g.V.Stamp != w.V.Stamp || g.V.Origin != w.V.Origin || g.V.Gone != w.V.Gone || g.V.TTL != w.V.TTL || !bytes.Equal(g.V.Value, w.V.Value) {
			t.Error(i, g)
		}
	}
	e := dead(put(0, "k", "w", 6, st(0, 0), st(8, 8)))
	e.Answer.Stamp = st(8, 8)
	if l := causal.Writes([]causal.Event{e}); len(l) != 1 || !l[0].Unsure || l[0].V.Stamp != st(0, 0) {
		t.Error("a stamp that was told beside an error", l)
	}
	if len(causal.Writes(nil)) != 0 {
		t.Error("nothing")
	}
}

// P25.2.
func TestNewest(t *testing.T) {
	w := func(key, value string, at api.Stamp, origin int) causal.Write {
		return causal.Write{Key: key, V: api.Version{Stamp: at, Origin: origin, Value: []byte(value)}}
	}
	unsure := func(value string) causal.Write {
		return causal.Write{Key: "k", V: api.Version{Value: []byte(value)}, Unsure: true}
	}
	gone, short, lost := w("k", "", st(7, 0), 0), w("k", "s", st(5, 0), 0), unsure("")
	gone.V.Gone, short.V.TTL, lost.V.Gone = true, 3, true
	for i, c := range []struct {
		l       []causal.Write
		at      api.Stamp
		want    string
		nothing bool
	}{
		{nil, st(9, 0), "", true},
		{[]causal.Write{w("j", "a", st(5, 0), 0)}, st(9, 0), "", true},
		{[]causal.Write{w("k", "a", st(5, 0), 0)}, st(4, 9), "", true},
		{[]causal.Write{w("k", "a", st(5, 0), 0)}, st(5, 0), "a", false},
		{[]causal.Write{w("k", "b", st(6, 0), 0), w("k", "a", st(5, 0), 0)}, st(9, 0), "b", false},
		{[]causal.Write{w("k", "b", st(6, 0), 0), w("k", "a", st(5, 0), 0)}, st(5, 9), "a", false},
		{[]causal.Write{w("k", "b", st(6, 0), 1), w("k", "c", st(6, 0), 3), w("k", "a", st(6, 0), 2)}, st(9, 0), "c", false},
		{[]causal.Write{w("k", "first", st(6, 0), 1), w("k", "second", st(6, 0), 1)}, st(9, 0), "first", false},
		{[]causal.Write{w("k", "a", st(5, 0), 0), gone}, st(9, 0), "", true},
		{[]causal.Write{w("k", "a", st(5, 0), 0), gone}, st(6, 9), "a", false},
		{[]causal.Write{short}, st(7, 9), "s", false},
		{[]causal.Write{short}, st(8, 0), "", true},
		{[]causal.Write{unsure("x"), w("k", "a", st(5, 0), 0), unsure("y"), lost}, st(9, 0), "a x y", true},
		{[]causal.Write{unsure("x"), gone}, st(9, 0), "x", true},
		{[]causal.Write{lost, w("k", "a", st(5, 0), 0)}, st(9, 0), "a", true},
		{[]causal.Write{lost}, st(9, 0), "", true},
		{[]causal.Write{unsure("x")}, st(math.MinInt, 0), "x", true},
	} {
		values, nothing := causal.Newest(c.l, "k", c.at)
		if got := string(bytes.Join(values, []byte(" "))); got != c.want || nothing != c.nothing {
			t.Error(i, got, nothing)
		}
	}
}

// P25.3: the example, and each thing that can't be.
func TestCheck(t *testing.T) {
	z := st(0, 0)
	a := put(0, "k", "a", 0, z, st(5, 0))
	s := snap(1, 0, z, st(6, 0))
	check(t, "nothing", -1)
	check(t, "the example", 2, a, s, get(1, 0, "k", false, ""))
	check(t, "a good one", -1, a, s, get(1, 0, "k", true, "a"))
	check(t, "another value", 2, a, s, get(1, 0, "k", true, "b"))
	check(t, "a key that nobody wrote", 2, a, s, get(1, 0, "l", true, ""))
	check(t, "nothing there", -1, a, s, get(1, 0, "l", false, ""))
	check(t, "one that erred", -1, a, s, erred(get(1, 0, "k", false, ""), api.ErrOld))
	check(t, "another place", -1, a, s, get(0, 0, "k", false, ""))
	check(t, "another number", -1, a, s, get(1, 1, "k", false, ""))
	check(t, "told later", -1, a, get(1, 0, "k", false, ""), s)
	check(t, "a snapshot that erred", -1, a, erred(s, api.ErrBehind), get(1, 0, "k", false, ""))
	check(t, "the last one counts", -1, a, s, snap(1, 0, z, st(4, 0)), get(1, 0, "k", false, ""))
	check(t, "the last one counts", 3, a, snap(1, 0, z, st(4, 0)), s, get(1, 0, "k", false, ""))
	check(t, "written behind it", -1, s, get(1, 0, "k", true, "a"), a)
	check(t, "written behind it", 1, s, get(1, 0, "k", false, ""), a)
	check(t, "a stamp that is not above what was seen", 0, put(0, "k", "a", 0, st(5, 0), st(5, 0)))
	check(t, "a stamp that is above", -1, put(0, "k", "a", 0, st(5, 0), st(5, 1)))
	check(t, "of one that erred", -1, erred(put(0, "k", "a", 0, st(5, 0), st(5, 0)), api.ErrFull))
	check(t, "a snapshot below what was seen", 1, a, snap(0, 0, st(6, 1), st(6, 0)))
	check(t, "a snapshot at it", -1, a, snap(0, 0, st(6, 0), st(6, 0)))
	d := del(0, "k", st(5, 5))
	d.Step.Seen = st(5, 5)
	check(t, "a Del likewise", 1, a, d)
	check(t, "deleted", 3, a, del(2, "k", st(5, 5)), s, get(1, 0, "k", true, "a"))
	check(t, "deleted", -1, a, del(2, "k", st(5, 5)), s, get(1, 0, "k", false, ""))
	check(t, "unsure", -1, a, dead(put(2, "k", "x", 0, z, z)), s, get(1, 0, "k", true, "x"), get(1, 0, "k", true, "a"), get(1, 0, "k", false, ""))
	check(t, "unsure", 3, a, dead(put(2, "k", "x", 0, z, z)), s, get(1, 0, "k", true, "y"))
	check(t, "the first one", 1, a, put(0, "k", "b", 0, st(9, 0), st(9, 0)), snap(0, 0, st(9, 0), z))
	for kind := range 25 {
		if kind < world.StepPut || kind > world.StepScan {
			check(t, "other kinds", -1, causal.Event{Step: world.Step{Kind: kind, Seen: st(5, 5)}})
		}
	}
}

// P25.3: scans.
func TestCheckScans(t *testing.T) {
	z := st(0, 0)
	l := []causal.Event{put(0, "k", "a", 0, z, st(5, 0)), put(0, "l", "b", 0, z, st(5, 1)), put(0, "m", "c", 0, z, st(5, 2)), put(0, "n", "d", 0, z, st(7, 0)), snap(1, 3, z, st(6, 0))}
	for i, c := range []struct {
		e  causal.Event
		is bool
	}{
		{scan(1, 3, "", "", 9, "k=a", "l=b", "m=c"), true},
		{scan(1, 3, "", "", 3, "k=a", "l=b", "m=c"), true},
		{scan(1, 3, "", "", 2, "k=a", "l=b"), true},
		{scan(1, 3, "", "", 2, "k=a", "m=c"), false},
		{scan(1, 3, "", "", 2, "k=a", "l=b", "m=c"), false},
		{scan(1, 3, "", "", 9, "k=a", "l=b"), false},
		{scan(1, 3, "", "", 9, "l=b", "m=c"), false},
		{scan(1, 3, "", "", 1, "l=b"), false},
		{scan(1, 3, "l", "", 1, "l=b"), true},
		{scan(1, 3, "l", "m", 9, "l=b"), true},
		{scan(1, 3, "l", "m", 9, "l=b", "m=c"), false},
		{scan(1, 3, "l", "m", 9, "k=a", "l=b"), false},
		{scan(1, 3, "l", "m", 9), false},
		{scan(1, 3, "x", "", 9), true},
		{scan(1, 3, "m", "k", 9), true},
		{scan(1, 3, "", "", 9, "k=a", "l=x", "m=c"), false},
		{scan(1, 3, "", "", 9, "l=b", "k=a", "m=c"), false},
		{scan(1, 3, "", "", 9, "k=a", "k=a", "l=b", "m=c"), false},
		{scan(1, 3, "", "", 9, "k=a", "l=b", "m=c", "n=d"), false},
		{scan(1, 3, "", "", 9, "k=a", "l=b", "m=c", "o="), false},
		{scan(1, 3, "", "", 0), true},
		{scan(1, 3, "", "", -1), true},
		{scan(1, 3, "", "", math.MinInt), true},
		{scan(1, 3, "", "", 0, "k=a"), false},
		{scan(1, 3, "", "", -1, "k=a"), false},
		{scan(1, 4, "", "", 9), true},
		{scan(0, 3, "", "", 9), true},
		{erred(scan(1, 3, "", "", 9), api.ErrOld), true},
	} {
		want := len(l)
		if c.is {
			want = -1
		}
		check(t, strconv.Itoa(i), want, append(l[:len(l):len(l)], c.e)...)
	}
	falling := []causal.Event{l[2], l[1], l[0], l[4]}
	check(t, "keys in any order", 4, append(falling, scan(1, 3, "", "", 9, "l=b", "m=c"))...)
	check(t, "keys in any order", -1, append(falling, scan(1, 3, "", "", 2, "k=a", "l=b"))...)
	check(t, "keys in any order", 4, append(falling, scan(1, 3, "", "", 1, "l=b"))...)
	unsure := append(l[:len(l):len(l)], dead(put(2, "lx", "u", 0, z, z)), dead(del(2, "l", z)))
	check(t, "unsure", -1, append(unsure, scan(1, 3, "", "", 9, "k=a", "lx=u", "m=c"), scan(1, 3, "", "", 9, "k=a", "l=b", "m=c"))...)
}

// script is what happens in a world by a seed.
func script(t *testing.T, seed int64) []causal.Event {
	t.Helper()
	r := rand.New(rand.NewSource(seed))
	x, _, _ := leap.Parse("2017-01-01 37\nexpires 2026-12-28\n")
	w, e := world.New(3, 3, 1<<20, x)
	if e != api.OK {
		t.Fatal(e)
	}
	var l []causal.Event
	seen := make([]api.Stamp, 4)
	often := []int{1, 1, 1, 2, 3, 3, 4, 4, 4, 4, 5, 5, 7, 7, 7, 8, 8, 8, 8, 8, 8, 8, 16, 18}
	for range 400 {
		who := r.Intn(len(seen))
		kind := often[r.Intn(len(often))]
		if r.Intn(5) == 0 {
			kind = 1 + r.Intn(18)
		}
		s := world.Step{Kind: kind, Node: r.Intn(3), N: r.Intn(5), M: r.Intn(5), By: byte(r.Intn(3)), Key: "k" + strconv.Itoa(r.Intn(4)), Seen: seen[who]}
		switch s.Kind {
		case world.StepPut:
			s.N, s.Value = r.Intn(3)*50, []byte(strconv.Itoa(r.Int()))
		case world.StepSnap:
			s.N = 500
		case world.StepScan:
			s.Key, s.To = s.Key[:r.Intn(3)], []string{"", "k2", "k9"}[r.Intn(3)]
		case world.StepTick:
			s.N = r.Intn(40) * 1000000
		case world.StepFuse:
			s.N = r.Intn(60)
		}
		a := w.Do(s)
		if hi := a.Stamp; a.Err == api.OK && (hi.Milli > seen[who].Milli || hi.Milli == seen[who].Milli && hi.Count > seen[who].Count) {
			seen[who] = hi
		}
		l = append(l, causal.Event{Who: who, Step: s, Answer: a})
	}
	return l
}

// P24.4, P25.3: what a world tells can be; what is changed in it, mostly can't.
func TestWorlds(t *testing.T) {
	found, caught := 0, 0
	for seed := range int64(150) {
		l := script(t, seed)
		if n, bad := causal.Check(l); bad {
			t.Fatal(seed, n, l[n])
		}
		for i := range l {
			a := l[i].Answer
			if l[i].Step.Kind != world.StepGet || !a.Found {
				continue
			}
			found++
			l[i].Answer.Value = []byte("nobody wrote that")
			if n, bad := causal.Check(l); !bad || n != i {
				t.Error(seed, i, n, bad)
			}
			l[i].Answer = world.Answer{}
			if n, bad := causal.Check(l); bad && n == i {
				caught++
			}
			l[i].Answer = a
		}
	}
	if found < 100 || caught < 10 {
		t.Error("too little was found", found, caught)
	}
}

// P25.4.
func TestNothingIsShared(t *testing.T) {
	l := []causal.Event{put(0, "k", "abc", 0, st(0, 0), st(5, 0))}
	w := causal.Writes(l)
	w[0].V.Value[0] = 'x'
	if string(l[0].Step.Value) != "abc" {
		t.Error("shared")
	}
	w = append(w, causal.Write{Key: "k", V: api.Version{Value: []byte("def")}, Unsure: true})
	values, _ := causal.Newest(w, "k", st(9, 0))
	values[0][1], values[1][1] = 'y', 'y'
	if string(w[0].V.Value) != "xbc" || string(w[1].V.Value) != "def" {
		t.Error("shared")
	}
}
