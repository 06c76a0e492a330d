package world

import (
	"meridian/api"
	"meridian/era"
	"meridian/node"
	"meridian/packet"
	"meridian/scale"
)

const (
	milliNano = 1000000
	maxTick   = 1 << 40
	maxTurns  = 200
	maxGiven  = 4000 // of one turn
	turnMilli = 10
	// What the ways of a reply are.
	wayUnknown = 1
	wayStratum = 2
	wayOrigin  = 4
	wayError   = 8
	wayStays   = 16
)

// doStore is a step that asks a place's node.
func doStore(n *node.Node, s Step) Answer {
	var a Answer
	switch s.Kind {
	case StepPut:
		a.Stamp, a.Err = n.Put(s.Seen, s.Key, s.Value, s.N)
	case StepDel:
		a.Stamp, a.Err = n.Del(s.Seen, s.Key)
	case StepSnap:
		a.N, a.Stamp, a.Err = n.Snap(s.Seen, s.N)
	case StepGet:
		a.Value, a.Found, a.Err = n.Get(s.N, s.Key)
	case StepScan:
		a.Pairs, a.Err = n.Scan(s.N, s.Key, s.To, s.M)
	case StepClose:
		a.N = n.Close(s.N)
	}
	return a
}

// doNet is a step that messages under way meet.
func (w *World) doNet(s Step) Answer {
	if w.net.Len() == 0 {
		return Answer{Err: api.ErrNone}
	}
	did := false
	switch s.Kind {
	case StepGive:
		w.give(s.N)
	case StepLose:
		w.net.Give(s.N)
	case StepTwice:
		did = w.net.Twice(s.N)
	case StepLate:
		did = w.net.Late(s.N)
	case StepSpoil:
		did = w.net.Spoil(s.N, s.M, s.By)
	}
	if did {
		return Answer{N: 1}
	}
	return Answer{}
}

// doPower is a step of a place, whether it is up or down.
func (w *World) doPower(p *place, s Step) Answer {
	switch s.Kind {
	case StepCrash:
		if p.node != nil {
			p.disk.Crash(s.N, s.By)
			p.node, p.asked = nil, nil
		}
	case StepStart:
		if p.node == nil {
			return Answer{Err: w.start(s.Node)}
		}
	case StepFuse:
		p.disk.Fuse(s.N)
	}
	return Answer{}
}

// give brings the picked message to its place, if that is up.
func (w *World) give(pick int) {
	m, ok := w.net.Give(pick)
	if !ok {
		return
	}
	if p := w.place(m.To); p != nil && p.node != nil {
		w.net.Send(p.node.Hear(m)...)
	}
}

// tick lets the oscillator of a place that is up go on.
func (w *World) tick(p *place, nanos int) {
	p.count = scale.Add(p.count, nanos)
	w.net.Send(p.node.Tick(nanos)...)
}

// rest lets so many turns go by.
func (w *World) rest(turns int) Answer {
	if turns < 1 || turns > maxTurns {
		return Answer{Err: api.ErrArg}
	}
	for range turns {
		w.turn()
	}
	return Answer{}
}

// turn lets all that are up tick toward the greatest time, and gives messages till there is none.
func (w *World) turn() {
	most := 0
	for _, p := range w.places {
		if p.node != nil {
			most = max(most, p.node.Milli())
		}
	}
	for _, p := range w.places {
		if p.node != nil {
			nanos := scale.Mul(most+turnMilli-p.node.Milli(), milliNano)
			w.tick(p, min(max(nanos, turnMilli*milliNano), maxTick))
		}
	}
	for range maxGiven {
		if w.net.Len() == 0 {
			return
		}
		w.give(0)
	}
}

// ask asks a server for the time.
func (p *place) ask(server int) Answer {
	b, e := p.node.Ask(server, p.count)
	if e != api.OK {
		return Answer{Err: e}
	}
	q, e := packet.Decode(b)
	if e == api.OK {
		p.asked[server] = q.Transmit
	}
	return Answer{Err: e}
}

// reply answers the last question to a server.
func (w *World) reply(p *place, s Step) Answer {
	if s.N < 0 || s.N >= w.servers {
		return Answer{Err: api.ErrArg}
	}
	question := p.asked[s.N]
	if question == 0 {
		return Answer{Err: api.ErrNone}
	}
	if s.By&wayStays == 0 {
		p.asked[s.N] = 0
	}
	u, e := scale.UTC(w.table, scale.Add(p.count, s.M))
	if e != api.OK {
		return Answer{Err: api.ErrRange}
	}
	stamp, e := era.Stamp(u)
	if e != api.OK {
		return Answer{Err: api.ErrRange}
	}
	b, e := packet.Encode(answer(question, stamp, s.By))
	if e != api.OK {
		return Answer{Err: e}
	}
	return Answer{Err: p.node.Client.Hear(s.N, p.count, b)}
}

// answer is what a server says to a question, in some ways.
func answer(question, stamp uint64, ways byte) packet.Packet {
	a := packet.Packet{Mode: 4, Stratum: 1, Origin: question, Receive: stamp, Transmit: stamp}
	if ways&wayUnknown != 0 {
		a.Leap = 3
	}
	if ways&wayStratum != 0 {
		a.Stratum = 16
	}
	if ways&wayOrigin != 0 {
		a.Origin++
	}
	if ways&wayError != 0 {
		a.RootError = 65536
	}
	return a
}
