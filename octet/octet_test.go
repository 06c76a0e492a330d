package octet_test

import (
	"bytes"
	"hash/crc32"
	"math"
	"testing"

	"meridian/octet"
)

func laid(lay func(w *octet.Writer)) []byte {
	var w octet.Writer
	lay(&w)
	return w.Out()
}

// P1.1: the least bytes for each number, held within 0 and 2^62.
func TestNumsAreLaid(t *testing.T) {
	for _, c := range []struct {
		n    int
		want []byte
	}{
		{0, []byte{0}}, {1, []byte{1}}, {127, []byte{0x7f}}, {128, []byte{0x80, 1}}, {300, []byte{0xac, 2}},
		{16383, []byte{0xff, 0x7f}}, {16384, []byte{0x80, 0x80, 1}}, {-1, []byte{0}}, {math.MinInt, []byte{0}},
		{1<<62 - 1, []byte{0xff, 0xff, 0xff, 0xff, 0xff, 0xff, 0xff, 0xff, 0x3f}},
		{1 << 62, []byte{0x80, 0x80, 0x80, 0x80, 0x80, 0x80, 0x80, 0x80, 0x40}},
		{1<<62 + 1, []byte{0x80, 0x80, 0x80, 0x80, 0x80, 0x80, 0x80, 0x80, 0x40}},
		{math.MaxInt, []byte{0x80, 0x80, 0x80, 0x80, 0x80, 0x80, 0x80, 0x80, 0x40}},
	} {
		if b := laid(func(w *octet.Writer) { w.Nums(c.n) }); !bytes.Equal(b, c.want) {
			t.Errorf("%d: %x", c.n, b)
		}
	}
}

// P1.1: rows, raw bytes, the chapter's example; each Out is new memory.
func TestRowsAreLaid(t *testing.T) {
	var w octet.Writer
	if len(w.Out()) != 0 {
		t.Error("an empty one", w.Out())
	}
	w.Nums(1, 300)
	w.Bytes([]byte("a"))
	if b := w.Out(); !bytes.Equal(b, []byte{1, 0xac, 2, 1, 0x61}) {
		t.Errorf("%x", b)
	}
	w.Bytes()
	w.Raw()
	w.Bytes(nil, []byte("bc"))
	w.Raw(9, 0)
	want := []byte{1, 0xac, 2, 1, 0x61, 0, 2, 'b', 'c', 9, 0}
	first, second := w.Out(), w.Out()
	if !bytes.Equal(first, want) {
		t.Errorf("%x", first)
	}
	for i := range first {
		first[i] = 0xee
	}
	_ = append(first[:3], 1, 2, 3)
	w.Nums(5)
	if !bytes.Equal(second, want) || !bytes.Equal(w.Out(), append(bytes.Clone(want), 5)) {
		t.Error("an answer shares memory")
	}
}

// P1.2: what is taken, place by place.
func TestReaderTakes(t *testing.T) {
	given := laid(func(w *octet.Writer) {
		w.Nums(0, 1, 300, 1<<62)
		w.Bytes([]byte("xyz"), nil)
		w.Raw(1, 2, 3)
	})
	r := octet.NewReader(given)
	var a, b int
	if r.Left() != len(given) || !r.Good() || r.Whole() {
		t.Error("at first")
	}
	r.Nums(&a, nil, &b)
	if a != 0 || b != 300 || r.Num() != 1<<62 || string(r.Bytes()) != "xyz" || len(r.Bytes()) != 0 {
		t.Error(a, b)
	}
	if r.Left() != 3 || len(r.Raw(0)) != 0 || !bytes.Equal(r.Raw(3), []byte{1, 2, 3}) || r.Left() != 0 || !r.Whole() || !r.Good() {
		t.Error("the end")
	}
	if r.Whole(); r.Num() != 0 || r.Good() || r.Whole() {
		t.Error("behind the end")
	}
	if !octet.NewReader(nil).Whole() {
		t.Error("nothing is whole")
	}
}

// P1.2: everything that errs, and that the first error stays.
func TestReaderErrs(t *testing.T) {
	num := func(r *octet.Reader) { r.Num() }
	for i, c := range []struct {
		b    []byte
		take func(r *octet.Reader)
	}{
		{nil, num},
		{[]byte{0x80}, num},
		{[]byte{0x80, 0, 7}, num},
		{[]byte{0xff, 0x80, 0, 7}, num},
		{append(bytes.Repeat([]byte{0x80}, 10), 1), num},
		{append(bytes.Repeat([]byte{0x80}, 9), 1, 7), num},
		{[]byte{0x81, 0x80, 0x80, 0x80, 0x80, 0x80, 0x80, 0x80, 0x40, 7}, num},
		{[]byte{0xff, 0xff, 0xff, 0xff, 0xff, 0xff, 0xff, 0xff, 0x7f, 7}, num},
		{[]byte{3, 1, 2}, func(r *octet.Reader) { r.Bytes() }},
		{[]byte{0x80, 0x80, 0x80, 0x80, 0x80, 0x80, 0x80, 0x80, 0x40, 1}, func(r *octet.Reader) { r.Bytes() }},
		{[]byte{1, 2}, func(r *octet.Reader) { r.Raw(3) }},
		{[]byte{1, 2}, func(r *octet.Reader) { r.Raw(-1) }},
		{[]byte{1, 2}, func(r *octet.Reader) { r.Raw(math.MinInt) }},
		{[]byte{1, 2}, func(r *octet.Reader) { r.Raw(math.MaxInt) }},
		{[]byte{1, 2}, func(r *octet.Reader) { r.Bad() }},
	} {
		r := octet.NewReader(c.b)
		c.take(r)
		n := 9
		r.Nums(&n)
		if r.Good() || r.Whole() || r.Left() != 0 || n != 0 || r.Num() != 0 || len(r.Bytes()) != 0 || len(r.Raw(1)) != 0 || len(r.Raw(0)) != 0 {
			t.Error(i)
		}
	}
}

// P1.3: rows joined, and their sums by another hand.
func TestJoinAndSum(t *testing.T) {
	if octet.Sum([]byte("1234"), []byte("56789")) != 0xcbf43926 || octet.Sum() != 0 || len(octet.Join()) != 0 || octet.Sum(nil, nil) != 0 {
		t.Error("the examples")
	}
	var b []byte
	for i := range 600 {
		b = append(b, byte(i*i>>3))
		k := i / 3
		if octet.Sum(b[:k], nil, b[k:]) != crc32.ChecksumIEEE(b) || !bytes.Equal(octet.Join(b[:k], b[k:]), b) {
			t.Fatal(i)
		}
	}
}

// P1.4: there and back; one byte turned; nothing kept, nothing changed; nil ones.
func TestThereAndBack(t *testing.T) {
	for shift := range 63 {
		for d := -1; d <= 1; d++ {
			n := max(1<<shift+d, 0)
			if n > 1<<62 {
				continue
			}
			r := octet.NewReader(laid(func(w *octet.Writer) { w.Nums(n) }))
			if r.Num() != n || !r.Whole() {
				t.Error(n)
			}
		}
	}
	row := []byte("a row of some bytes")
	sum := octet.Sum(row)
	for i := range row {
		for by := 1; by < 256; by++ {
			row[i] ^= byte(by)
			if octet.Sum(row) == sum {
				t.Error(i, by)
			}
			row[i] ^= byte(by)
		}
	}
}

func TestNothingIsKept(t *testing.T) {
	whole := []byte{2, 5, 6, 7, 7}
	given := whole[:3]
	var w octet.Writer
	w.Bytes(given)
	w.Raw(given...)
	r := octet.NewReader(given)
	joined := octet.Join(given)
	given[1] = 99
	if !bytes.Equal(w.Out(), []byte{3, 2, 5, 6, 2, 5, 6}) || !bytes.Equal(joined, []byte{2, 5, 6}) {
		t.Error("kept")
	}
	got := r.Bytes()
	if !bytes.Equal(got, []byte{5, 6}) {
		t.Error(got)
	}
	given[1] = 5
	_ = append(joined, 8, 8)
	if !bytes.Equal(whole, []byte{2, 5, 6, 7, 7}) {
		t.Error("changed", whole)
	}
	r = octet.NewReader([]byte{1, 2, 3, 4})
	one := r.Raw(2)
	_ = append(one, 9, 9)
	if !bytes.Equal(r.Raw(2), []byte{3, 4}) {
		t.Error("spare room is shared")
	}
}

func TestNilOnes(t *testing.T) {
	var w *octet.Writer
	w.Nums(1)
	w.Bytes([]byte{1})
	w.Raw(1)
	if len(w.Out()) != 0 {
		t.Error("a nil Writer")
	}
	var r *octet.Reader
	n := 5
	r.Nums(&n, nil)
	r.Bad()
	if n != 0 || r.Num() != 0 || len(r.Bytes()) != 0 || len(r.Raw(0)) != 0 || r.Left() != 0 || r.Good() || r.Whole() {
		t.Error("a nil Reader")
	}
}
