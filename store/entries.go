package store

import (
	"cmp"

	"meridian/api"
	"meridian/hlc"
	"meridian/octet"
	"meridian/rec"
)

// Kinds of entries.
const (
	kindPut  = 1
	kindMark = 2
	kindAll  = 3
)

// replay does again what the log tells; false, if it can't be.
func (s *Store) replay() bool {
	next, _ := s.log.Next()
	s.entries = next - 1
	if s.age > 0 {
		s.entries--
	}
	if s.entries < 0 {
		return false
	}
	for n := 1; n < next; n++ {
		p, e := s.log.Entry(n)
		if e != api.OK || !s.redo(p, s.age > 0 && n == 1) {
			return false
		}
	}
	return true
}

// redo does one entry again; first: it must be one of all, and no other one may be.
func (s *Store) redo(p []byte, first bool) bool {
	r := octet.NewReader(p)
	kind := r.Num()
	if first != (kind == kindAll) {
		return false
	}
	switch kind {
	case kindPut:
		return s.redoPut(r)
	case kindMark:
		return s.redoMark(r)
	case kindAll:
		return s.redoAll(r)
	}
	return false
}

func (s *Store) redoPut(r *octet.Reader) bool {
	l, e := rec.ReadList(r.Raw(r.Left()))
	if e != api.OK || len(l) == 0 || s.check(l) != api.OK {
		return false
	}
	s.lay(l)
	return true
}

func (s *Store) redoMark(r *octet.Reader) bool {
	mark, ok := readStamp(r)
	if !ok || !r.Whole() || hlc.Compare(mark, s.mark) <= 0 {
		return false
	}
	s.trim(mark)
	return true
}

func (s *Store) redoAll(r *octet.Reader) bool {
	var ok bool
	if s.mark, ok = readStamp(r); !ok {
		return false
	}
	for i := range s.applied {
		a := &s.applied[i]
		a.seq = r.Num()
		if a.stamp, ok = readStamp(r); !ok || a.seq > maxSeq {
			return false
		}
	}
	elder := ""
	for range r.Num() {
		key := string(r.Bytes())
		if len(key) < 1 || len(key) > api.MaxKey || key <= elder || !s.redoKey(r, key) {
			return false
		}
		elder = key
	}
	return s.redoKept(r) && r.Whole()
}

// redoKey takes the versions of a key.
func (s *Store) redoKey(r *octet.Reader, key string) bool {
	var elder api.Version
	n := r.Num()
	for i := range n {
		x, e := rec.Decode(r.Bytes())
		if e != api.OK || x.Seq != 1 || x.Key != key || i > 0 && compare(elder, x.V) >= 0 || !s.layVersion(key, x.V) {
			return false
		}
		elder = x.V
	}
	return n > 0
}

func (s *Store) redoKept(r *octet.Reader) bool {
	n := r.Num()
	end := s.applied[s.own].seq
	for i := range n {
		x, e := rec.Decode(r.Bytes())
		if e != api.OK || x.Origin != s.own || x.Seq != end-n+1+i {
			return false
		}
		s.kept = append(s.kept, x)
	}
	return r.Good()
}

// markEntry is the entry of a mark.
func markEntry(mark api.Stamp) []byte {
	var w octet.Writer
	w.Nums(kindMark, mark.Milli, mark.Count)
	return w.Out()
}

// allEntry is the entry of all that there is.
func (s *Store) allEntry() []byte {
	var w octet.Writer
	w.Nums(kindAll, s.mark.Milli, s.mark.Count)
	for _, a := range s.applied {
		w.Nums(a.seq, a.stamp.Milli, a.stamp.Count)
	}
	w.Nums(len(s.keys))
	for _, key := range s.keys {
		l := s.chains[key].chain.All()
		w.Bytes([]byte(key))
		w.Nums(len(l))
		for _, v := range l {
			layRecord(&w, api.Record{Origin: v.Origin, Seq: 1, Key: key, V: v})
		}
	}
	w.Nums(len(s.kept))
	for _, r := range s.kept {
		layRecord(&w, r)
	}
	return w.Out()
}

// layRecord lays a record that is one.
func layRecord(w *octet.Writer, r api.Record) {
	b, _ := rec.Encode(r)
	w.Bytes(b)
}

func readStamp(r *octet.Reader) (api.Stamp, bool) {
	var s api.Stamp
	r.Nums(&s.Milli, &s.Count)
	return s, r.Good() && isStamp(s)
}

func compare(a, b api.Version) int {
	return cmp.Or(hlc.Compare(a.Stamp, b.Stamp), cmp.Compare(a.Origin, b.Origin))
}
