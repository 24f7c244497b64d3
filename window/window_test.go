package window_test

import (
	"bytes"
	"math"
	"math/rand"
	"testing"

	"punnet/api"
	. "punnet/window"
)

func TestP12_1Empty(t *testing.T) {
	w := New()
	if w.Len() != 0 || w.All() != 0 || len(w.Last(5)) != 0 {
		t.Error("a new window holds bytes")
	}
	if c, ok := w.Back(1); c != 0 || ok {
		t.Error("Back of an empty window")
	}
	w.Put()
	if w.Len() != 0 {
		t.Error("Put of nothing")
	}
}

// compare holds a window against all bytes that were put.
func compare(t *testing.T, w *Window, put []byte) {
	t.Helper()
	held := put[max(0, len(put)-32768):]
	if w.Len() != len(held) || w.All() != len(put) {
		t.Fatalf("Len %d, All %d of %d bytes", w.Len(), w.All(), len(put))
	}
	if !bytes.Equal(w.Last(math.MaxInt), held) || !bytes.Equal(w.Last(40000), held) || !bytes.Equal(w.Last(len(held)), held) {
		t.Fatal("Last of all")
	}
	for _, n := range []int{0, 1, 2, 300} {
		if n <= len(held) && !bytes.Equal(w.Last(n), held[len(held)-n:]) {
			t.Fatalf("Last(%d)", n)
		}
	}
	for _, n := range []int{-1, math.MinInt} {
		if len(w.Last(n)) != 0 {
			t.Fatalf("Last(%d)", n)
		}
	}
	for _, dist := range []int{1, 2, 3, len(held) / 2, len(held) - 1, len(held)} {
		if dist >= 1 && dist <= len(held) {
			if c, ok := w.Back(dist); c != held[len(held)-dist] || !ok {
				t.Fatalf("Back(%d)", dist)
			}
		}
	}
	for _, dist := range []int{0, -1, len(held) + 1, 32769, math.MinInt, math.MaxInt} {
		if c, ok := w.Back(dist); c != 0 || ok {
			t.Fatalf("Back(%d) = %d", dist, c)
		}
	}
}

func TestP12_1(t *testing.T) {
	rnd := rand.New(rand.NewSource(12))
	w := New()
	var put []byte
	for len(put) < 100000 {
		b := make([]byte, rnd.Intn(3000))
		rnd.Read(b)
		w.Put(b...)
		put = append(put, b...)
		compare(t, w, put)
		clear(b)
		clear(w.Last(100))
	}
	w = New()
	w.Put(put[:32767]...)
	compare(t, w, put[:32767])
	w.Put(put[32767])
	compare(t, w, put[:32768])
	w.Put(put[32768])
	compare(t, w, put[:32769])
}

func TestP12_2(t *testing.T) {
	w := New()
	w.Put([]byte("ab")...)
	if b, e := w.Copy(2, 5); string(b) != "ababa" || e != api.OK {
		t.Errorf("%q, %d", b, e)
	}
	compare(t, w, []byte("abababa"))
	cases := []struct {
		dist, n int
		want    api.Errno
	}{
		{1, -1, api.ErrArg}, {1, 1<<20 + 1, api.ErrArg}, {0, -1, api.ErrArg}, {99, math.MaxInt, api.ErrArg}, {1, math.MinInt, api.ErrArg},
		{0, 1, api.ErrDist}, {-1, 1, api.ErrDist}, {8, 1, api.ErrDist}, {0, 0, api.ErrDist}, {math.MaxInt, 0, api.ErrDist}, {math.MinInt, 5, api.ErrDist},
	}
	for _, c := range cases {
		if b, e := w.Copy(c.dist, c.n); b != nil || e != c.want {
			t.Errorf("Copy(%d, %d) = %v, %d", c.dist, c.n, b, e)
		}
	}
	compare(t, w, []byte("abababa"))
	if b, e := w.Copy(7, 0); len(b) != 0 || e != api.OK {
		t.Errorf("Copy of none: %v, %d", b, e)
	}
	compare(t, w, []byte("abababa"))
	if b, e := w.Copy(3, 1<<20); len(b) != 1<<20 || e != api.OK {
		t.Errorf("Copy of as many as may be: %d, %d", len(b), e)
	}
}

func TestP12_3(t *testing.T) {
	rnd := rand.New(rand.NewSource(13))
	w := New()
	put := make([]byte, 40000)
	rnd.Read(put)
	w.Put(put...)
	for range 200 {
		dist, n := 1+rnd.Intn(1<<rnd.Intn(16)), rnd.Intn(600)
		if rnd.Intn(8) == 0 {
			dist = 32768
		}
		b, e := w.Copy(dist, n)
		if e != api.OK || len(b) != n {
			t.Fatalf("Copy(%d, %d): %d", dist, n, e)
		}
		for i := range b {
			put = append(put, put[len(put)-dist])
			if b[i] != put[len(put)-1] {
				t.Fatalf("Copy(%d, %d) differs at %d", dist, n, i)
			}
		}
	}
	compare(t, w, put)
}
