package node

import (
	"meridian/api"
	"meridian/hlc"
	"meridian/scale"
	"meridian/wire"
)

// Hear takes a message; what is sent.
func (n *Node) Hear(m api.Msg) []api.Msg {
	if n.ready() != api.OK || m.To != n.id {
		return nil
	}
	o := n.other(m.From)
	w, e := wire.Decode(m.Data)
	if o == nil || e != api.OK {
		return nil
	}
	switch w.Kind {
	case wire.Records:
		if w.Origin == m.From {
			return n.hearRecords(o, w.Records)
		}
	case wire.Ack:
		if w.Origin == n.id {
			o.out.Ack(w.Seq)
			n.store.Forget(n.allHave())
		}
	case wire.Beat:
		if w.Origin == m.From {
			n.hearBeat(o, w)
		}
	}
	return nil
}

// Tick lets the oscillator go on; what is sent.
func (n *Node) Tick(nanos int) []api.Msg {
	if n.ready() != api.OK {
		return nil
	}
	n.count = scale.Add(n.count, min(max(nanos, 0), maxTick))
	n.leases.Expire(n.milli())
	sent := n.sendRecords()
	s, e := n.give()
	if n.down {
		return nil
	}
	if e == api.OK {
		n.vec.Reach(n.id, s)
	}
	floor := n.leases.Floor(n.vec.Stable())
	n.vec.Floor(n.id, floor)
	if e == api.OK {
		sent = append(sent, n.beats(s, floor)...)
	}
	n.store.Forget(n.allHave())
	if n.tidy(); n.down {
		return nil
	}
	return sent
}

func (n *Node) hearRecords(o *other, l []api.Record) []api.Msg {
	taken := o.in.Take(l...)
	if len(taken) == 0 {
		return o.in.Done(o.in.Applied())
	}
	var stamps []api.Stamp
	for _, r := range taken {
		stamps = append(stamps, r.V.Stamp)
	}
	if n.clock.Hear(n.milli(), stamps...) != api.OK {
		return nil
	}
	if e := n.store.Put(taken...); e != api.OK {
		n.down = e != api.ErrOrder
		return nil
	}
	last := taken[len(taken)-1]
	n.vec.Reach(o.place, last.V.Stamp)
	return o.in.Done(last.Seq)
}

func (n *Node) hearBeat(o *other, w wire.Word) {
	n.vec.Floor(o.place, w.Floor)
	if w.Seq == o.in.Applied() && n.clock.Hear(n.milli(), w.Stamp) == api.OK {
		n.vec.Reach(o.place, w.Stamp)
	}
}

// sendRecords is what each other place needs, by places.
func (n *Node) sendRecords() []api.Msg {
	var sent []api.Msg
	for _, o := range n.others {
		o.out.Tick()
		from, needs := o.out.Need(n.written())
		if !needs {
			continue
		}
		m, e := o.out.Send(n.store.Kept(from, api.Window)...)
		if e == api.OK {
			sent = append(sent, m...)
		}
	}
	return sent
}

// beats tells each other place how far this one is.
func (n *Node) beats(s, floor api.Stamp) []api.Msg {
	b, e := wire.Encode(wire.Word{Kind: wire.Beat, Origin: n.id, Seq: n.written(), Stamp: s, Floor: floor})
	if e != api.OK {
		return nil
	}
	var sent []api.Msg
	for _, o := range n.others {
		sent = append(sent, api.Msg{From: n.id, To: o.place, Data: append([]byte(nil), b...)})
	}
	return sent
}

// tidy drops what nobody asks for any more, and writes the store anew, if that is due.
func (n *Node) tidy() {
	if mark := n.vec.Mark(); hlc.Compare(mark, n.store.Mark()) > 0 {
		if _, e := n.store.Trim(mark); e != api.OK {
			n.down = e != api.ErrLong
			if n.down {
				return
			}
		}
	}
	if _, entries := n.store.Age(); entries > maxEntries {
		if e := n.store.Compact(); e != api.OK {
			n.down = e != api.ErrLong
		}
	}
}

// other is another place; nil, if it is none.
func (n *Node) other(place int) *other {
	for i := range n.others {
		if n.others[i].place == place {
			return &n.others[i]
		}
	}
	return nil
}
