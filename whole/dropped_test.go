package whole

import (
	"bytes"
	"slices"
	"strconv"
	"testing"

	"meridian/api"
	"meridian/hlc"
	"meridian/tool"
	"meridian/trace"
	"meridian/world"
)

// P0.5 What is dropped: a snapshot that is held sees the same, whatever goes on and is dropped elsewhere.
func TestWhatIsHeldStays(t *testing.T) {
	for seed := range int64(12) {
		p := begin(t, seed, 3, usual)
		for range 60 {
			p.some(calm())
		}
		p.must(world.Step{Kind: world.StepRest, N: 5})
		type sight struct {
			held
			at    api.Stamp
			pairs string
		}
		var all []sight
		scan := func(node, n int) string {
			return trace.Line(world.Step{}, p.must(world.Step{Kind: world.StepScan, Node: node, N: n, M: 100}))
		}
		for id := range p.places {
			s := p.must(world.Step{Kind: world.StepSnap, Node: id, N: 100000})
			all = append(all, sight{held{id, s.N}, s.Stamp, scan(id, s.N)})
		}
		for range 400 {
			p.some(join(stormyButPower(), many(3, world.StepRest)))
			if p.steps[len(p.steps)-1].Kind == world.StepClose && p.said[len(p.said)-1].N > 0 {
				s := p.steps[len(p.steps)-1]
				all = slices.DeleteFunc(all, func(h sight) bool { return h.node == s.Node && h.n == s.N })
			}
			for _, h := range all {
				if n := p.w.Node(h.node); hlc.Compare(n.Store().Mark(), h.at) > 0 {
					t.Fatal(seed, "dropped", n.Store().Mark(), h.at)
				}
			}
		}
		for _, h := range all {
			if got := scan(h.node, h.n); got != h.pairs {
				t.Fatal(seed, h, got)
			}
		}
		p.check()
	}
}

// stormyButPower has no crash: a snapshot ends with its place's life.
func stormyButPower() kinds {
	return slices.DeleteFunc(stormy(), func(kind int) bool { return kind == world.StepCrash || kind == world.StepFuse })
}

// P0.5: a value with a time is seen just ahead of its end, and no longer.
func TestJustAheadOfItsEnd(t *testing.T) {
	p := begin(t, 5, 2, usual)
	a := p.must(world.Step{Kind: world.StepPut, Key: "k", Value: []byte("elder")})
	a = p.must(world.Step{Kind: world.StepPut, Key: "k", Value: []byte("v"), N: 95, Seen: a.Stamp})
	seen, ended := 0, 0
	for range 30 {
		p.must(world.Step{Kind: world.StepRest, N: 1})
		for id := range 2 {
			s := p.must(world.Step{Kind: world.StepSnap, Node: id, Seen: a.Stamp, N: 50})
			g := p.must(world.Step{Kind: world.StepGet, Node: id, N: s.N, Key: "k"})
			lives := s.Stamp.Milli-a.Stamp.Milli < 95
			if g.Found != lives || lives && string(g.Value) != "v" {
				t.Fatal(s, g)
			}
			if lives {
				seen++
			} else {
				ended++
			}
			p.must(world.Step{Kind: world.StepClose, Node: id, N: s.N})
		}
	}
	if seen < 10 || ended < 10 {
		t.Error(seen, ended)
	}
	for id := range 2 {
		if keys, n := p.w.Node(id).Store().Keys(); len(keys) != 0 || n != 0 {
			t.Error("it goes", keys, n)
		}
	}
	// To the millisecond: the clock of one place, told by the tick.
	for end := 93; end <= 97; end++ {
		p := begin(t, 5, 1, usual)
		a := p.must(world.Step{Kind: world.StepPut, Key: "k", Value: []byte("v"), N: 95})
		p.must(world.Step{Kind: world.StepTick, N: end * milli})
		s := p.must(world.Step{Kind: world.StepSnap, Seen: a.Stamp, N: 50})
		if g := p.must(world.Step{Kind: world.StepGet, N: s.N, Key: "k"}); g.Found != (end < 95) || s.Stamp.Milli != end {
			t.Error(end, s, g)
		}
	}
}

// P0.5: what nobody asks for any more goes: versions, kept records, files.
func TestWhatNobodyAsksFor(t *testing.T) {
	p := begin(t, 6, 3, usual)
	for i := range 1500 {
		p.must(world.Step{Kind: world.StepPut, Node: i % 3, Key: "k" + strconv.Itoa(i%7), Value: bytes.Repeat([]byte{byte(i)}, 100)})
		if i%20 == 0 {
			p.must(world.Step{Kind: world.StepRest, N: 3})
		}
	}
	p.must(world.Step{Kind: world.StepDel, Key: "k3"})
	p.must(world.Step{Kind: world.StepRest, N: 100})
	for id := range 3 {
		n := p.w.Node(id)
		keys, versions := n.Store().Keys()
		if len(keys) != 6 || versions != 6 || len(n.Store().Kept(0, 9)) != 0 {
			t.Error(id, keys, versions)
		}
		if used := p.w.Disk(id).Used(); used > 20000 {
			t.Error(id, used)
		}
	}
}

// P0.6 Twins: the same steps are answered alike, and leave the same behind them.
func TestTwins(t *testing.T) {
	for seed := range int64(20) {
		p := begin(t, seed, 1+int(seed)%api.MaxNodes, usual)
		for range 500 {
			p.some(lying())
		}
		for range 2 {
			w, e := world.New(p.places, 3, room, table(t, usual))
			if e != api.OK {
				t.Fatal(e)
			}
			var said []world.Answer
			for _, s := range p.steps {
				said = append(said, w.Do(s))
			}
			if trace.Lines(p.steps, p.said...) != trace.Lines(p.steps, said...) {
				t.Fatal(seed, "twins differ")
			}
			for id := range p.places {
				sameDisks(t, p.w, w, id)
			}
		}
	}
	script := "put 0 0.0 k v 0\nrest 9\nsnap 1 0.1 900\nget 1 0 k\nscan 1 0\ncrash 0 5\nstart 0\nput 0 0.1 k w 0\n"
	if a := tool.Run(script); a != tool.Run(script) || a == "" {
		t.Error(a)
	}
}
