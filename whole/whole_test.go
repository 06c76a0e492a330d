package whole

import (
	"bytes"
	"math/rand"
	"strconv"
	"testing"

	"meridian/api"
	"meridian/chain"
	"meridian/hlc"
	"meridian/trace"
	"meridian/world"
)

// P0.1 Causality: what is told could be, whatever is lost, doubled, late, spoilt, wherever power fails, whatever clocks say.
func TestCausality(t *testing.T) {
	found, pairs, held := 0, 0, 0
	for i, k := range []kinds{calm(), stormy(), lying()} {
		for seed := range int64(60) {
			p := begin(t, seed, 1+int(seed)%api.MaxNodes, usual)
			for range 500 {
				p.some(k)
			}
			p.check()
			for n, e := range p.events {
				a := e.Answer
				if a.Err != api.OK {
					continue
				}
				pairs += len(a.Pairs)
				if a.Found {
					found++
				}
				if e.Step.Kind == world.StepSnap {
					held++
				}
				if (e.Step.Kind == world.StepPut || e.Step.Kind == world.StepDel) && hlc.Compare(a.Stamp, e.Step.Seen) <= 0 {
					t.Fatal(i, seed, n, "a stamp is not above what caused it")
				}
			}
		}
	}
	if found < 1000 || pairs < 1000 || held < 1000 {
		t.Error("too little was told", found, pairs, held)
	}
}

// model is what a world without faults must tell, kept in the plainest way.
type model struct {
	writes []world.Step
	stamps []api.Stamp
}

// get is the newest of a key at a stamp.
func (m *model) get(key string, at api.Stamp) (string, bool) {
	var last api.Version
	for i, s := range m.writes {
		v := api.Version{Stamp: m.stamps[i], Origin: s.Node, Value: s.Value, TTL: s.N, Gone: s.Kind == world.StepDel}
		newer := hlc.Compare(v.Stamp, last.Stamp)
		if s.Key == key && hlc.Compare(v.Stamp, at) <= 0 && (newer > 0 || newer == 0 && v.Origin > last.Origin) {
			last = v
		}
	}
	if last.Stamp == (api.Stamp{}) || !chain.Seen(last, at) {
		return "", false
	}
	return string(last.Value), true
}

// P0.1: a snapshot tells just the newest of what was written up to its stamp, by another hand than causal's.
func TestJustTheNewest(t *testing.T) {
	told := 0
	for seed := range int64(40) {
		p := begin(t, seed, 3, usual)
		var m model
		snaps := map[held]api.Stamp{}
		for range 800 {
			p.some(calm())
			s, a := p.steps[len(p.steps)-1], p.said[len(p.said)-1]
			if a.Err != api.OK {
				continue
			}
			switch s.Kind {
			case world.StepPut:
				m.writes, m.stamps = append(m.writes, s), append(m.stamps, a.Stamp)
			case world.StepDel:
				m.writes, m.stamps = append(m.writes, world.Step{Kind: s.Kind, Node: s.Node, Key: s.Key}), append(m.stamps, a.Stamp)
			case world.StepSnap:
				snaps[held{s.Node, a.N}] = a.Stamp
			case world.StepGet:
				want, found := m.get(s.Key, snaps[held{s.Node, s.N}])
				if string(a.Value) != want || a.Found != found {
					t.Fatal(seed, s, a, want, found)
				}
				told++
			}
		}
	}
	if told < 1000 {
		t.Error("too little was told", told)
	}
}

// P0.2 What lasts: wherever the fuse burns, in a start, too, what was told is there, and stamps are above all elder ones.
func TestWhatLasts(t *testing.T) {
	for fuse := range 90 {
		for _, tear := range []byte{0, 1} {
			r := rand.New(rand.NewSource(int64(fuse)))
			p := begin(t, int64(fuse), 2, usual)
			told := map[string]string{}
			unsure := map[string]int{}
			var last api.Stamp
			for range 5 {
				p.must(world.Step{Kind: world.StepFuse, N: fuse})
				for i := range 40 {
					key, value := "k"+strconv.Itoa(r.Intn(20)), strconv.Itoa(i*100+fuse)
					a := p.do(0, world.Step{Kind: world.StepPut, Key: key, Value: []byte(value)})
					if a.Err != api.OK {
						unsure[key]++
						break
					}
					if hlc.Compare(a.Stamp, last) <= 0 {
						t.Fatal(fuse, "stamps do not rise", last, a.Stamp)
					}
					last, told[key] = a.Stamp, value
					delete(unsure, key)
					p.do(0, world.Step{Kind: world.StepTick, N: r.Intn(300) * milli})
				}
				p.must(world.Step{Kind: world.StepCrash, N: r.Intn(2000), By: tear})
				for n := 0; p.do(0, world.Step{Kind: world.StepStart}).Err != api.OK; n++ {
					// The place stays down: its disk forgets what a start did not make last.
					p.w.Disk(0).Crash(r.Intn(100), 0)
					p.must(world.Step{Kind: world.StepFuse, N: n})
				}
				p.must(world.Step{Kind: world.StepFuse, N: -1})
				p.must(world.Step{Kind: world.StepRest, N: 20})
				s := p.must(world.Step{Kind: world.StepSnap, Seen: last, N: 1000})
				for key, value := range told {
					a := p.must(world.Step{Kind: world.StepGet, N: s.N, Key: key})
					if unsure[key] == 0 && (!a.Found || string(a.Value) != value) {
						t.Fatal(fuse, key, value, string(a.Value), a.Found)
					}
				}
				p.must(world.Step{Kind: world.StepClose, N: s.N})
				last = hlc.Max(last, s.Stamp)
				told, unsure = map[string]string{}, map[string]int{}
			}
			p.check()
		}
	}
}

// P0.2: stamps rise over lives, through clocks that begin anew behind where they were.
func TestStampsRiseOverLives(t *testing.T) {
	for seed := range int64(30) {
		p := begin(t, seed, 2, usual)
		last := make([]api.Stamp, 2)
		for range 400 {
			p.some(lying())
			s, a := p.steps[len(p.steps)-1], p.said[len(p.said)-1]
			if a.Err == api.OK && (s.Kind == world.StepPut || s.Kind == world.StepDel) {
				if hlc.Compare(a.Stamp, last[s.Node]) <= 0 {
					t.Fatal(seed, last[s.Node], a.Stamp)
				}
				last[s.Node] = a.Stamp
			}
		}
	}
}

// P0.3 Leap seconds: worlds that are one but for their tables tell the same, byte by byte.
func TestLeapSeconds(t *testing.T) {
	tables := []string{
		usual,
		"1972-01-01 0\nexpires 2030-01-01\n",
		"1972-01-01 1000\nexpires 2030-01-01\n",
		"1972-01-01 40\n2015-12-01 39\n2016-03-01 38\nexpires 2030-01-01\n",
		"2016-02-01 36\n2016-03-01 37\n2016-04-01 38\n2016-05-01 39\n2016-06-01 38\nexpires 2030-01-01\n",
	}
	turned := 0
	for seed := range int64(25) {
		p := begin(t, seed, 3, tables[0])
		apart := p.r.Intn(100) * 7919 * sec // a moment of some months, far from what has a second more or less
		for range 600 {
			if p.r.Intn(6) == 0 {
				server, id := p.r.Intn(3), p.r.Intn(3)
				p.do(0, world.Step{Kind: world.StepAsk, Node: id, N: server})
				p.do(0, world.Step{Kind: world.StepTick, Node: id, N: p.r.Intn(9 * milli)})
				p.do(0, world.Step{Kind: world.StepReply, Node: id, N: server, M: start + apart + p.r.Intn(5*milli), By: byte(p.r.Intn(5) / 4)})
			}
			p.some(stormy())
		}
		synced := 0
		for id := range 3 {
			if n := p.w.Node(id); n != nil {
				synced += n.Synced()
			}
		}
		turned += synced
		for _, text := range tables[1:] {
			again, e := world.New(3, 3, room, table(t, text))
			if e != api.OK {
				t.Fatal(e)
			}
			var said []world.Answer
			for _, s := range p.steps {
				said = append(said, again.Do(s))
			}
			if a, b := trace.Lines(p.steps, p.said...), trace.Lines(p.steps, said...); a != b {
				t.Fatal(seed, text, "is told otherwise")
			}
			for id := range 3 {
				sameDisks(t, p.w, again, id)
			}
		}
	}
	if turned == 0 {
		t.Error("no clock was turned")
	}
}

// sameDisks holds two worlds' disks of a place to be alike.
func sameDisks(t *testing.T, a, b *world.World, id int) {
	t.Helper()
	x, y := a.Disk(id), b.Disk(id)
	for _, name := range append(x.Names(), y.Names()...) {
		p, e := x.Read(name)
		q, f := y.Read(name)
		if e != f || !bytes.Equal(p, q) {
			t.Fatal(id, name, e, f)
		}
	}
}

// P0.3: over a leap second, too: clocks go on as if there were none.
func TestOverALeapSecond(t *testing.T) {
	const ahead = 17166*api.DayNano + 86390*sec + 36*sec // ten seconds ahead of the one of 2016-12-31
	var first string
	// Tables of which all but the first have no second more there; the last one has one less elsewhere.
	for _, text := range []string{usual, "1972-01-01 37\nexpires 2030-01-01\n", "1972-01-01 38\n2017-01-01 37\nexpires 2030-01-01\n"} {
		w, e := world.New(3, 3, room, table(t, text))
		if e != api.OK {
			t.Fatal(e)
		}
		var steps []world.Step
		var said []world.Answer
		do := func(s world.Step) world.Answer {
			a := w.Do(s)
			steps, said = append(steps, s), append(said, a)
			return a
		}
		for round := range 40 {
			id := round % 3
			for server := range 3 {
				do(world.Step{Kind: world.StepAsk, Node: id, N: server})
				if s := (round*500 + 250) / 1000; s < 9 || s > 12 { // not within that second, which no stamp tells
					do(world.Step{Kind: world.StepReply, Node: id, N: server, M: ahead})
				}
			}
			for id := range 3 {
				do(world.Step{Kind: world.StepTick, Node: id, N: 500 * milli})
			}
			do(world.Step{Kind: world.StepPut, Node: id, Key: "k", Value: []byte(strconv.Itoa(round))})
			for w.Flight() > 0 {
				do(world.Step{Kind: world.StepGive})
			}
		}
		if w.Node(0).Synced() < 5 {
			t.Error(text, w.Node(0).Synced())
		}
		got := trace.Lines(steps, said...)
		if first == "" {
			first = got
		}
		if got != first {
			t.Error(text, "is told otherwise")
		}
	}
}

// P0.4 They meet: when all are up and messages come, all places have all records, and tell the same.
func TestTheyMeet(t *testing.T) {
	for seed := range int64(60) {
		p := begin(t, seed, 2+int(seed)%4, usual)
		for range 400 {
			p.some(stormy())
		}
		p.mend()
		p.settle()
		at := p.newest()
		var all []string
		for id := range p.places {
			n := p.w.Node(id)
			if n.Left() != 0 || hlc.Compare(n.Stable(), at) <= 0 {
				t.Fatal(seed, id, n.Left(), n.Stable(), at)
			}
			for o := range p.places {
				a, x := n.Store().Applied(o)
				b, y := p.w.Node(o).Store().Applied(o)
				if a != b || x != y {
					t.Fatal(seed, id, o, a, b)
				}
			}
			all = append(all, tells(p, id))
		}
		for id := range all {
			if all[id] != all[0] {
				t.Fatal(seed, id, all[id], all[0])
			}
		}
		p.check()
	}
}

// tells is what a place tells of values without an end.
func tells(p *play, id int) string {
	s := p.must(world.Step{Kind: world.StepSnap, Node: id, N: 1000})
	p.must(world.Step{Kind: world.StepScan, Node: id, N: s.N, M: 100})
	l, e := p.w.Node(id).Store().Scan("", "", s.Stamp, 100)
	if e != api.OK {
		p.t.Fatal(e)
	}
	p.must(world.Step{Kind: world.StepClose, Node: id, N: s.N})
	return trace.Line(world.Step{}, world.Answer{Pairs: l})
}
