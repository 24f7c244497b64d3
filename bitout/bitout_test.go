package bitout_test

import (
	"bytes"
	"math"
	"math/rand"
	"testing"

	"punnet/bitin"
	. "punnet/bitout"
)

func TestP6_1Put(t *testing.T) {
	w := New()
	if w.Len() != 0 || len(w.Take()) != 0 {
		t.Error("a new writer has bits")
	}
	if !w.Put(2, 3) || w.Len() != 3 || len(w.Take()) != 0 || !w.Put(22, 5) || w.Len() != 8 {
		t.Error("Put")
	}
	if b := w.Take(); !bytes.Equal(b, []byte{0xb2}) {
		t.Errorf("% x", b)
	}
	for _, n := range []int{-1, 33, math.MinInt, math.MaxInt} {
		if w.Put(1, n) || w.Len() != 8 {
			t.Errorf("Put of %d bits", n)
		}
	}
	if !w.Put(math.MaxUint32, 0) || w.Len() != 8 {
		t.Error("Put of no bits")
	}
	w.Put(math.MaxUint32, 1)
	w.Put(0, 2)
	w.Put(math.MaxUint32, 32)
	if w.Len() != 43 {
		t.Errorf("Len: %d", w.Len())
	}
	if b := w.Finish(); !bytes.Equal(b, []byte{0xf9, 0xff, 0xff, 0xff, 0x07}) || w.Len() != 48 {
		t.Errorf("% x, %d", b, w.Len())
	}
	if b := w.Finish(); len(b) != 0 {
		t.Errorf("taken twice: % x", b)
	}
}

func TestP6_1Align(t *testing.T) {
	for n := 0; n <= 16; n++ {
		w := New()
		w.Put(math.MaxUint32, n)
		c := w.Clone()
		want := (8 - n%8) % 8
		if k := w.Align(); k != want || w.Len() != n+want {
			t.Errorf("Align at %d: %d", n, k)
		}
		if k := w.Align(); k != 0 {
			t.Errorf("Align twice: %d", k)
		}
		w.Put(1, 1)
		b := w.Finish()
		c.Bytes([]byte{1})
		if d := c.Finish(); !bytes.Equal(b, d) {
			t.Errorf("at %d: % x, % x", n, b, d)
		}
		if c.Len() != n+want+8 {
			t.Errorf("Len behind Bytes: %d", c.Len())
		}
	}
}

func TestP6_1Memory(t *testing.T) {
	w := New()
	in := []byte{1, 2}
	w.Bytes(in)
	in[0] = 9
	c := w.Clone()
	w.Bytes([]byte{3})
	c.Bytes([]byte{4})
	c.Put(1, 1)
	b := w.Take()
	if !bytes.Equal(b, []byte{1, 2, 3}) {
		t.Errorf("% x", b)
	}
	clear(b)
	w.Bytes([]byte{5})
	if d := w.Take(); !bytes.Equal(d, []byte{5}) || b[0] != 0 {
		t.Errorf("% x, % x", b, d)
	}
	if d := c.Finish(); !bytes.Equal(d, []byte{1, 2, 4, 1}) {
		t.Errorf("% x", d)
	}
}

func TestP6_2(t *testing.T) {
	if v := Reverse(0b1101, 3); v != 0b101 {
		t.Errorf("%b", v)
	}
	if v := Reverse(0b0011, 4); v != 0b1100 {
		t.Errorf("%b", v)
	}
	if Reverse(0xffffffff, 0) != 0 || Reverse(0xffffffff, -1) != 0 || Reverse(0xffffffff, math.MinInt) != 0 {
		t.Error("Reverse of no bits")
	}
	if Reverse(1, 32) != 1<<31 || Reverse(1, 33) != 1<<31 || Reverse(2, math.MaxInt) != 1<<30 || Reverse(0xffffffff, 31) != 1<<31-1 {
		t.Error("Reverse of all bits")
	}
}

func TestP6_3(t *testing.T) {
	rnd := rand.New(rand.NewSource(6))
	w, r := New(), bitin.New()
	var values, sizes []int
	for range 5000 {
		n := rnd.Intn(33)
		v := rnd.Uint32()
		w.Put(v, n)
		values, sizes = append(values, int(v)&(1<<n-1)), append(sizes, n)
		if rnd.Intn(10) == 0 {
			r.Feed(w.Take())
		}
	}
	r.Feed(w.Finish())
	for i, n := range sizes {
		if v, ok := r.Bits(n); int(v) != values[i] || !ok {
			t.Fatalf("bits %d: %x, %v", i, v, ok)
		}
	}
	if r.Left() >= 8 {
		t.Errorf("%d bits are left", r.Left())
	}
}
