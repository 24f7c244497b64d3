package store_test

import (
	"bytes"
	"maps"
	"math"
	"math/rand"
	"slices"
	"testing"

	"punnet/api"
	. "punnet/store"
)

func TestP24_1(t *testing.T) {
	for _, size := range []int{-1, api.MaxCap + 1, math.MinInt, math.MaxInt} {
		if s, e := New(size); s != nil || e != api.ErrRange {
			t.Errorf("New(%d): %v, %d", size, s, e)
		}
	}
	s, e := New(api.MaxCap)
	if e != api.OK || s.Size() != api.MaxCap || s.Free() != api.MaxCap || s.Live() != 0 || len(s.Heaps()) != 0 || !s.Sound() {
		t.Errorf("New of the most: %d", e)
	}
	s, _ = New(10)
	if s.Has(1) || s.Has(0) || s.Has(-1) {
		t.Error("Has without heaps")
	}
	for want := 1; want <= 12; want++ {
		if id := s.Open(); id != want || !s.Has(id) {
			t.Errorf("Open: %d", id)
		}
		if n, e := s.Len(want); n != 0 || e != api.OK {
			t.Errorf("Len: %d, %d", n, e)
		}
	}
	s.Drop(12)
	s.Drop(3)
	if id := s.Open(); id != 13 {
		t.Errorf("Open after Drop: %d", id)
	}
	if h := s.Heaps(); !slices.Equal(h, []int{1, 2, 4, 5, 6, 7, 8, 9, 10, 11, 13}) {
		t.Errorf("Heaps: %v", h)
	}
}

func TestP24_1Missing(t *testing.T) {
	s, _ := New(4)
	s.Open()
	s.Drop(1)
	for _, id := range []int{0, 1, 2, -1, math.MinInt, math.MaxInt} {
		if n, e := s.Len(id); n != 0 || e != api.ErrMissing {
			t.Errorf("Len: %d, %d", n, e)
		}
		if e := s.Append(id, make([]byte, 9)); e != api.ErrMissing {
			t.Errorf("Append: %d", e)
		}
		if b, e := s.Read(id, -1, 9); b != nil || e != api.ErrMissing {
			t.Errorf("Read: %d", e)
		}
		if b, e := s.All(id); b != nil || e != api.ErrMissing {
			t.Errorf("All: %d", e)
		}
		if e := s.Cut(id, -1); e != api.ErrMissing {
			t.Errorf("Cut: %d", e)
		}
		if e := s.Drop(id); e != api.ErrMissing {
			t.Errorf("Drop: %d", e)
		}
	}
}

func TestP24_2(t *testing.T) {
	s, _ := New(4)
	id := s.Open()
	if e := s.Append(id, []byte("abcde")); e != api.ErrFull || s.Free() != 4 {
		t.Errorf("Append of too many: %d", e)
	}
	in := []byte("abc")
	if e := s.Append(id, in); e != api.OK {
		t.Errorf("Append: %d", e)
	}
	in[0] = 'x'
	if e := s.Append(id, []byte("de")); e != api.ErrFull {
		t.Errorf("Append of one too many: %d", e)
	}
	if e := s.Append(id, nil); e != api.OK {
		t.Errorf("Append of none: %d", e)
	}
	s.Append(id, []byte("d"))
	if e := s.Append(id, nil); e != api.OK {
		t.Errorf("Append of none to a full store: %d", e)
	}
	b, e := s.All(id)
	if string(b) != "abcd" || e != api.OK {
		t.Errorf("All: %q, %d", b, e)
	}
	b[0] = 'x'
	for from := 0; from <= 4; from++ {
		for n := 0; n <= 4-from; n++ {
			if b, e := s.Read(id, from, n); string(b) != "abcd"[from:from+n] || e != api.OK {
				t.Errorf("Read(%d, %d): %q, %d", from, n, b, e)
			}
		}
	}
	for _, c := range [][2]int{{-1, 1}, {5, 0}, {0, -1}, {0, 5}, {4, 1}, {math.MaxInt, 1}, {1, math.MaxInt}, {math.MinInt, math.MinInt}} {
		if b, e := s.Read(id, c[0], c[1]); b != nil || e != api.ErrRange {
			t.Errorf("Read(%d, %d): %q, %d", c[0], c[1], b, e)
		}
	}
	for _, n := range []int{-1, 5, math.MinInt, math.MaxInt} {
		if e := s.Cut(id, n); e != api.ErrRange || s.Live() != 4 {
			t.Errorf("Cut(%d): %d", n, e)
		}
	}
	if e := s.Cut(id, 4); e != api.OK || s.Free() != 0 {
		t.Errorf("Cut of none: %d", e)
	}
	if e := s.Cut(id, 1); e != api.OK || s.Free() != 3 || s.Live() != 1 {
		t.Errorf("Cut: %d", e)
	}
	if b, _ := s.All(id); string(b) != "a" {
		t.Errorf("All after Cut: %q", b)
	}
	if e := s.Drop(id); e != api.OK || s.Has(id) || s.Free() != 4 {
		t.Errorf("Drop: %d", e)
	}
}

func TestP24_3Compact(t *testing.T) {
	s, _ := New(12)
	a, b, c := s.Open(), s.Open(), s.Open()
	s.Append(a, []byte("aa"))
	s.Append(b, []byte("bbb"))
	s.Append(c, []byte("c"))
	s.Append(a, []byte("AA"))
	if holes, n := s.Holes(); holes != 0 || n != 0 || s.Compact() != 0 {
		t.Errorf("no holes: %d, %d", holes, n)
	}
	s.Cut(b, 1)
	s.Drop(c)
	if holes, n := s.Holes(); holes != 1 || n != 3 {
		t.Errorf("Holes: %d, %d", holes, n)
	}
	s.Cut(a, 3)
	if n := s.Compact(); n != 1 {
		t.Errorf("Compact: %d", n)
	}
	if holes, n := s.Holes(); holes != 0 || n != 0 || s.Live() != 4 || s.Free() != 8 || s.Size() != 12 {
		t.Errorf("after Compact: %d, %d", holes, n)
	}
	x, _ := s.All(a)
	y, _ := s.All(b)
	if string(x) != "aaA" || string(y) != "b" || !s.Sound() {
		t.Errorf("%q, %q", x, y)
	}
	s.Append(b, []byte("12345678"))
	y, _ = s.All(b)
	if string(y) != "b12345678" || s.Free() != 0 {
		t.Errorf("%q", y)
	}
}

func TestP24_3Resize(t *testing.T) {
	s, _ := New(6)
	a, b := s.Open(), s.Open()
	s.Append(a, []byte("aa"))
	s.Append(b, []byte("bb"))
	s.Drop(a)
	for _, size := range []int{-1, api.MaxCap + 1, math.MinInt, math.MaxInt} {
		if e := s.Resize(size); e != api.ErrRange || s.Size() != 6 {
			t.Errorf("Resize(%d): %d", size, e)
		}
	}
	for _, size := range []int{0, 2, 3} {
		if e := s.Resize(size); e != api.ErrBusy || s.Size() != 6 || s.Free() != 4 {
			t.Errorf("Resize(%d): %d", size, e)
		}
	}
	if e := s.Resize(4); e != api.OK || s.Size() != 4 || s.Free() != 2 {
		t.Errorf("Resize(4): %d", e)
	}
	s.Compact()
	if e := s.Resize(1); e != api.ErrBusy {
		t.Errorf("Resize below Live: %d", e)
	}
	if e := s.Resize(2); e != api.OK || s.Free() != 0 {
		t.Errorf("Resize to Live: %d", e)
	}
	if e := s.Resize(5); e != api.OK || s.Free() != 3 || !s.Sound() {
		t.Errorf("Resize(5): %d", e)
	}
	s.Append(b, []byte("ccc"))
	if x, _ := s.All(b); string(x) != "bbccc" {
		t.Errorf("%q", x)
	}
}

func TestP24_3Sound(t *testing.T) {
	for _, size := range []int{0, 1, 5} {
		s, _ := New(size)
		if !s.Sound() {
			t.Errorf("a store of %d bytes is not Sound", size)
		}
		id, other := s.Open(), s.Open()
		for range size {
			s.Append(id, []byte("a"))
			if !s.Sound() {
				t.Errorf("a store of %d bytes with %d in a heap is not Sound", size, s.Live())
			}
		}
		s.Cut(id, size/2)
		s.Append(other, []byte("b"))
		s.Drop(id)
		if !s.Sound() {
			t.Errorf("a store of %d bytes with a hole is not Sound", size)
		}
	}
}

func TestP24_4(t *testing.T) {
	rnd := rand.New(rand.NewSource(24))
	s, _ := New(200)
	model := map[int][]byte{}
	live := 0
	for range 6000 {
		ids := slices.Sorted(maps.Keys(model))
		id := rnd.Intn(20)
		if len(ids) > 0 {
			id = ids[rnd.Intn(len(ids))]
		}
		switch rnd.Intn(8) {
		case 0:
			if len(ids) < 6 {
				model[s.Open()] = nil
			}
		case 1:
			if rnd.Intn(4) == 0 && s.Drop(id) == api.OK {
				delete(model, id)
			}
		case 2:
			n := rnd.Intn(30)
			if s.Cut(id, n) == api.OK {
				model[id] = model[id][:n]
			}
		case 3:
			holes, _ := s.Holes()
			if n := s.Compact(); (n == 0) != (holes == 0) {
				t.Fatalf("%d bytes were moved for %d holes", n, holes)
			}
		case 4:
			size := rnd.Intn(250)
			e := s.Resize(size)
			if e == api.ErrBusy {
				s.Compact()
				e = s.Resize(size)
			}
			if (e == api.OK) != (size >= live) || e == api.OK && s.Size() != size {
				t.Fatalf("Resize(%d) with %d live: %d", size, live, e)
			}
		default:
			b := make([]byte, rnd.Intn(40))
			rnd.Read(b)
			e := s.Append(id, b)
			if _, is := model[id]; is && (e == api.OK) != (len(b) <= s.Size()-live) {
				t.Fatalf("Append of %d to %d: %d", len(b), live, e)
			}
			if e == api.OK {
				model[id] = append(bytes.Clone(model[id]), b...)
			}
		}
		live = 0
		for id, b := range model {
			live += len(b)
			if got, e := s.All(id); !bytes.Equal(got, b) || e != api.OK {
				t.Fatalf("heap %d has other bytes: %d", id, e)
			}
		}
		if !s.Sound() || s.Live() != live || s.Free() != s.Size()-live || !slices.Equal(s.Heaps(), slices.Sorted(maps.Keys(model))) {
			t.Fatal("the store is not sound")
		}
	}
}
