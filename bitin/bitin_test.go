package bitin_test

import (
	"bytes"
	"math"
	"math/rand"
	"testing"

	. "punnet/bitin"
)

func fed(b ...byte) *Reader {
	r := New()
	r.Feed(b)
	return r
}

func TestP5_1Example(t *testing.T) {
	r := fed(0xb2)
	if v, ok := r.Bits(3); v != 2 || !ok {
		t.Errorf("%d, %v", v, ok)
	}
	if v, ok := r.Bits(5); v != 22 || !ok {
		t.Errorf("%d, %v", v, ok)
	}
	if r.Left() != 0 || r.At() != 8 {
		t.Errorf("%d, %d", r.Left(), r.At())
	}
}

func TestP5_1Empty(t *testing.T) {
	r := New()
	if r.Left() != 0 || r.At() != 0 {
		t.Error("a new reader has bits")
	}
	if v, ok := r.Peek(0); v != 0 || !ok {
		t.Error("Peek(0)")
	}
	if v, ok := r.Bits(0); v != 0 || !ok {
		t.Error("Bits(0)")
	}
	if v, ok := r.Peek(1); v != 0 || ok {
		t.Error("Peek(1)")
	}
	if !r.Skip(0) || r.Skip(1) || r.Skip(-1) {
		t.Error("Skip")
	}
}

func TestP5_1Peek(t *testing.T) {
	data := []byte{0xef, 0xcd, 0xab, 0x89, 0x67, 0x45}
	all := uint64(0x456789abcdef)
	for at := 0; at <= 48; at++ {
		r := fed(data...)
		if !r.Skip(at) || r.At() != at || r.Left() != 48-at {
			t.Fatalf("Skip(%d)", at)
		}
		for n := -2; n <= 34; n++ {
			v, ok := r.Peek(n)
			want, exist := uint32(0), false
			if n >= 0 && n <= 32 {
				want, exist = uint32(all>>at&(1<<n-1)), at+n <= 48
			}
			if v != want || ok != exist {
				t.Errorf("at %d Peek(%d) = %x, %v", at, n, v, ok)
			}
			c := r.Clone()
			if !exist {
				want = 0
			}
			if v, ok := c.Bits(n); v != want || ok != exist {
				t.Errorf("at %d Bits(%d) = %x, %v", at, n, v, ok)
			}
			if exist != (c.At() == at+n) || !exist && c.At() != at {
				t.Errorf("at %d Bits(%d) took %d", at, n, c.At()-at)
			}
			if r.At() != at {
				t.Fatal("Peek took bits, or Clone is not independent")
			}
		}
	}
	r := fed(1)
	for _, n := range []int{math.MinInt, math.MaxInt, 33, -1} {
		if _, ok := r.Peek(n); ok {
			t.Errorf("Peek(%d)", n)
		}
		if _, ok := r.Bits(n); ok {
			t.Errorf("Bits(%d)", n)
		}
		if r.Skip(n) {
			t.Errorf("Skip(%d)", n)
		}
	}
}

func TestP5_2Align(t *testing.T) {
	for at := 0; at <= 16; at++ {
		r := fed(1, 2)
		r.Skip(at)
		want := (8 - at%8) % 8
		if n := r.Align(); n != want || r.At() != at+want {
			t.Errorf("Align at %d: %d", at, n)
		}
		if n := r.Align(); n != 0 {
			t.Errorf("Align twice at %d: %d", at, n)
		}
	}
}

func TestP5_2Bytes(t *testing.T) {
	data := []byte{1, 2, 3, 4}
	for at := 0; at <= 32; at++ {
		for _, n := range []int{math.MinInt, -1, 0, 1, 3, 4, 5, math.MaxInt} {
			r := fed(data...)
			r.Skip(at)
			rest := data[(at+7)/8:]
			if b := r.Rest(); !bytes.Equal(b, rest) || r.At() != at {
				t.Errorf("at %d Rest: %v", at, b)
			}
			want := rest[:min(max(n, 0), len(rest))]
			b := r.Bytes(n)
			if !bytes.Equal(b, want) || r.At() != (at+7)/8*8+8*len(want) {
				t.Errorf("at %d Bytes(%d): %v, %d", at, n, b, r.At())
			}
		}
	}
}

func TestP5_2Memory(t *testing.T) {
	data := []byte{1, 2, 3, 4}
	r := fed(data...)
	data[0] = 99
	c := r.Clone()
	r.Feed([]byte{5})
	c.Feed([]byte{6})
	rest := r.Rest()
	clear(rest)
	if b := r.Bytes(9); !bytes.Equal(b, []byte{1, 2, 3, 4, 5}) {
		t.Errorf("%v", b)
	}
	if b := c.Bytes(9); !bytes.Equal(b, []byte{1, 2, 3, 4, 6}) {
		t.Errorf("%v", b)
	}
}

func TestP5_3(t *testing.T) {
	rnd := rand.New(rand.NewSource(3))
	data := make([]byte, 3000)
	rnd.Read(data)
	for range 20 {
		whole, parts := fed(data...), New()
		rest := data
		for parts.At() < 8*len(data) {
			n := min(rnd.Intn(40), len(rest))
			parts.Feed(rest[:n])
			rest = rest[n:]
			for k := rnd.Intn(33); ; k = rnd.Intn(33) {
				v, ok := parts.Bits(k)
				if !ok {
					break
				}
				if w, _ := whole.Bits(k); v != w || parts.At() != whole.At() {
					t.Fatalf("bits differ at %d", whole.At())
				}
			}
			if len(rest) == 0 {
				whole.Skip(whole.Left())
				parts.Skip(parts.Left())
			}
		}
	}
}
