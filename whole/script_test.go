// Package whole tests the promises that go through all layers.
package whole

import (
	"math/rand"
	"strconv"
	"testing"

	"meridian/api"
	"meridian/causal"
	"meridian/hlc"
	"meridian/leap"
	"meridian/token"
	"meridian/world"
)

const (
	sec   = api.Second
	milli = 1000000
	// start is 2016-01-01 by TAI.
	start = 16801*api.DayNano + 36*sec
	usual = "1972-01-01 35\n2015-07-01 36\n2017-01-01 37\nexpires 2030-01-01\n"
	room  = 1 << 22
)

// play is a script that is made while it is done: what somebody does next depends on what was told.
type play struct {
	t      *testing.T
	r      *rand.Rand
	w      *world.World
	places int
	people []token.Token
	steps  []world.Step
	said   []world.Answer
	events []causal.Event
	snaps  []held
	values int // how many were written: each is another one
}

// held is a snapshot that was opened: where, and its number.
type held struct{ node, n int }

// kinds is how often a kind of step comes.
type kinds []int

func stamp(m, c int) api.Stamp { return api.Stamp{Milli: m, Count: c} }

func table(t *testing.T, text string) api.Table {
	t.Helper()
	x, line, e := leap.Parse(text)
	if e != api.OK {
		t.Fatal(text, line, e)
	}
	return x
}

func begin(t *testing.T, seed int64, places int, text string) *play {
	t.Helper()
	w, e := world.New(places, 3, room, table(t, text))
	if e != api.OK {
		t.Fatal(e)
	}
	return &play{t: t, r: rand.New(rand.NewSource(seed)), w: w, places: places, people: make([]token.Token, 4)}
}

// do lets somebody do a step; what is told is seen.
func (p *play) do(who int, s world.Step) world.Answer {
	a := p.w.Do(s)
	p.steps, p.said = append(p.steps, s), append(p.said, a)
	p.events = append(p.events, causal.Event{Who: who, Step: s, Answer: a})
	if a.Err == api.OK {
		p.people[who].Saw(a.Stamp)
		if s.Kind == world.StepSnap {
			p.snaps = append(p.snaps, held{s.Node, a.N})
		}
	}
	return a
}

// must does a step that may not err.
func (p *play) must(s world.Step) world.Answer {
	p.t.Helper()
	a := p.do(0, s)
	if a.Err != api.OK {
		p.t.Fatal(len(p.steps), s, a.Err)
	}
	return a
}

// some does one of some kinds of steps.
func (p *play) some(k kinds) {
	who := p.r.Intn(len(p.people))
	s := world.Step{Kind: k[p.r.Intn(len(k))], Node: p.r.Intn(p.places), Seen: p.people[who].Seen, Key: "k" + strconv.Itoa(p.r.Intn(5))}
	switch s.Kind {
	case world.StepPut:
		p.values++
		s.Value = []byte("v" + strconv.Itoa(p.values))
		if p.r.Intn(3) == 0 {
			s.N = 1 + p.r.Intn(300)
		}
	case world.StepSnap:
		s.N = p.r.Intn(2000)
	case world.StepGet, world.StepClose, world.StepScan:
		s.N = p.r.Intn(12)
		if n := len(p.snaps); n > 0 && p.r.Intn(8) > 0 {
			x := p.snaps[n-1-p.r.Intn(min(n, 6))]
			s.Node, s.N = x.node, x.n
		}
		if s.Kind == world.StepScan {
			s.Key, s.M = s.Key[:p.r.Intn(3)], p.r.Intn(7)
		}
	case world.StepTick:
		s.N = p.r.Intn(60) * milli
	case world.StepGive, world.StepLose, world.StepTwice, world.StepLate:
		s.N = p.r.Intn(50)
	case world.StepSpoil:
		s.N, s.M, s.By = p.r.Intn(50), p.r.Intn(200), byte(1+p.r.Intn(255))
	case world.StepAsk:
		s.N = p.r.Intn(3)
	case world.StepReply:
		s.N, s.M, s.By = p.r.Intn(3), start+p.r.Intn(20*milli), 0
		if p.r.Intn(4) == 0 { // a server that says anything
			s.M, s.By = p.r.Int()>>p.r.Intn(60)-p.r.Intn(40)*sec, byte(p.r.Intn(32))
		}
	case world.StepCrash:
		s.N, s.By = p.r.Intn(400), byte(p.r.Intn(2)*p.r.Intn(256))
	case world.StepFuse:
		s.N = p.r.Intn(60)
	case world.StepRest:
		s.N = 1 + p.r.Intn(3)
	}
	p.do(who, s)
}

// check holds what was told to what could be.
func (p *play) check() {
	p.t.Helper()
	if n, bad := causal.Check(p.events); bad {
		p.t.Fatal(n, p.events[n])
	}
}

// mend lets all places be up, with good disks.
func (p *play) mend() {
	p.t.Helper()
	for id := range p.places {
		p.must(world.Step{Kind: world.StepFuse, Node: id, N: -1})
		if n := p.w.Node(id); n != nil && n.Down() {
			p.must(world.Step{Kind: world.StepCrash, Node: id})
		}
		p.must(world.Step{Kind: world.StepStart, Node: id})
	}
}

// settle rests until the places must have met.
func (p *play) settle() {
	p.t.Helper()
	left := 0
	for id := range p.places {
		left = max(left, p.w.Node(id).Left())
	}
	for turns := 2*left + 40; turns > 0; turns -= 200 {
		p.must(world.Step{Kind: world.StepRest, N: min(turns, 200)})
	}
}

// newest is the greatest stamp that any place applied.
func (p *play) newest() api.Stamp {
	var all []api.Stamp
	for id := range p.places {
		for o := range p.places {
			_, s := p.w.Node(id).Store().Applied(o)
			all = append(all, s)
		}
	}
	return hlc.Max(all...)
}

// many repeats a kind.
func many(n, kind int) kinds {
	var k kinds
	for range n {
		k = append(k, kind)
	}
	return k
}

func join(l ...kinds) kinds {
	var all kinds
	for _, k := range l {
		all = append(all, k...)
	}
	return all
}

// calm is a world whose messages come, and whose disks are good.
func calm() kinds {
	return join(many(6, world.StepPut), many(2, world.StepDel), many(3, world.StepSnap), many(6, world.StepGet), many(3, world.StepScan), many(1, world.StepClose), many(6, world.StepTick), many(9, world.StepGive), many(1, world.StepRest))
}

// stormy has all else, too.
func stormy() kinds {
	return join(calm(), calm(), many(3, world.StepLose), many(3, world.StepTwice), many(3, world.StepLate), many(3, world.StepSpoil), many(2, world.StepCrash), many(5, world.StepStart), many(1, world.StepFuse))
}

// lying has servers that are asked, and say anything.
func lying() kinds {
	return join(stormy(), many(6, world.StepAsk), many(6, world.StepReply))
}
