package spans_test

import (
	"math"
	"math/rand"
	"slices"
	"testing"

	"punnet/api"
	. "punnet/spans"
)

func list(t *testing.T, s *Space, want ...Span) {
	t.Helper()
	if !slices.Equal(s.List(), want) {
		t.Errorf("List is %v, not %v", s.List(), want)
	}
}

func TestP21_1(t *testing.T) {
	if (Span{3, 4}).End() != 7 || (Span{}).End() != 0 || (Span{1 << 40, 1 << 40}).End() != 1<<41 {
		t.Error("End")
	}
	for _, size := range []int{-1, api.MaxCap + 1, math.MinInt, math.MaxInt} {
		if s, e := New(size); s != nil || e != api.ErrRange {
			t.Errorf("New(%d): %v, %d", size, s, e)
		}
	}
	s, e := New(0)
	if e != api.OK || s.Size() != 0 || s.Free() != 0 || s.Largest() != 0 || len(s.List()) != 0 {
		t.Error("New(0)")
	}
	s, e = New(api.MaxCap)
	if e != api.OK || s.Size() != api.MaxCap || s.Free() != api.MaxCap || s.Largest() != api.MaxCap {
		t.Error("New of the most")
	}
	list(t, s, Span{0, api.MaxCap})
}

func TestP21_1Has(t *testing.T) {
	s, _ := New(10)
	s.Take(5)
	s.Give(Span{1, 2})
	cases := []struct {
		x    Span
		want bool
	}{
		{Span{1, 2}, true}, {Span{1, 1}, true}, {Span{2, 1}, true}, {Span{0, 1}, false}, {Span{1, 3}, false}, {Span{2, 3}, false},
		{Span{5, 5}, true}, {Span{9, 1}, true}, {Span{9, 2}, false}, {Span{10, 1}, false}, {Span{1, 0}, false}, {Span{1, -1}, false}, {Span{-1, 2}, false},
		{Span{4, 3}, false}, {Span{1, 9}, false}, {Span{math.MaxInt, math.MaxInt}, false}, {Span{5, math.MaxInt}, false}, {Span{math.MinInt, 5}, false}, {Span{10, 0}, false},
	}
	for _, c := range cases {
		if s.Has(c.x) != c.want {
			t.Errorf("Has(%v)", c.x)
		}
	}
	s.List()[0] = Span{7, 7}
	list(t, s, Span{1, 2}, Span{5, 5})
}

func TestP21_2Take(t *testing.T) {
	s, _ := New(10)
	if x, e := s.Take(3); x != (Span{0, 3}) || e != api.OK {
		t.Errorf("%v, %d", x, e)
	}
	if x, e := s.Take(4); x != (Span{3, 4}) || e != api.OK {
		t.Errorf("%v, %d", x, e)
	}
	s.Give(Span{0, 3})
	list(t, s, Span{0, 3}, Span{7, 3})
	for _, n := range []int{0, -1, math.MinInt} {
		if x, e := s.Take(n); x != (Span{}) || e != api.ErrArg {
			t.Errorf("Take(%d): %v, %d", n, x, e)
		}
	}
	for _, n := range []int{4, 6, math.MaxInt} {
		if x, e := s.Take(n); x != (Span{}) || e != api.ErrFull {
			t.Errorf("Take(%d): %v, %d", n, x, e)
		}
	}
	list(t, s, Span{0, 3}, Span{7, 3})
	if x, _ := s.Take(2); x != (Span{0, 2}) {
		t.Errorf("%v", x)
	}
	if x, _ := s.Take(2); x != (Span{7, 2}) {
		t.Errorf("the first one that is long enough: %v", x)
	}
	list(t, s, Span{2, 1}, Span{9, 1})
	if s.Free() != 2 || s.Largest() != 1 {
		t.Error("Free, Largest")
	}
	if x, e := s.Take(1); x != (Span{2, 1}) || e != api.OK {
		t.Errorf("Take(1): %v, %d", x, e)
	}
	if n := s.Next(9, 1); n != 1 || s.Free() != 0 {
		t.Errorf("Next(9, 1): %d", n)
	}
}

func TestP21_2Some(t *testing.T) {
	holes := func() *Space {
		s, _ := New(12)
		s.Take(12)
		s.Give(Span{1, 2})
		s.Give(Span{5, 3})
		s.Give(Span{10, 1})
		return s
	}
	cases := []struct {
		n          int
		want, left []Span
	}{
		{0, nil, []Span{{1, 2}, {5, 3}, {10, 1}}},
		{1, []Span{{1, 1}}, []Span{{2, 1}, {5, 3}, {10, 1}}},
		{2, []Span{{1, 2}}, []Span{{5, 3}, {10, 1}}},
		{4, []Span{{1, 2}, {5, 2}}, []Span{{7, 1}, {10, 1}}},
		{5, []Span{{1, 2}, {5, 3}}, []Span{{10, 1}}},
		{6, []Span{{1, 2}, {5, 3}, {10, 1}}, nil},
	}
	for _, c := range cases {
		s := holes()
		if got, e := s.Some(c.n); !slices.Equal(got, c.want) || e != api.OK {
			t.Errorf("Some(%d): %v, %d", c.n, got, e)
		}
		list(t, s, c.left...)
	}
	s := holes()
	if got, e := s.Some(-1); got != nil || e != api.ErrArg {
		t.Errorf("Some(-1): %v, %d", got, e)
	}
	for _, n := range []int{7, math.MaxInt} {
		if got, e := s.Some(n); got != nil || e != api.ErrFull {
			t.Errorf("Some(%d): %v, %d", n, got, e)
		}
	}
	list(t, s, Span{1, 2}, Span{5, 3}, Span{10, 1})
	if n := s.Next(5, 2); n != 2 {
		t.Errorf("Next: %d", n)
	}
	if n := s.Next(7, 5); n != 1 {
		t.Errorf("Next: %d", n)
	}
	for _, c := range [][2]int{{2, 1}, {1, 0}, {1, -1}, {0, 1}, {5, 1}, {12, 1}, {-1, 1}, {math.MaxInt, 1}, {math.MinInt, 1}, {1, math.MinInt}} {
		if n := s.Next(c[0], c[1]); n != 0 {
			t.Errorf("Next(%d, %d): %d", c[0], c[1], n)
		}
	}
	list(t, s, Span{1, 2}, Span{10, 1})
	if n := s.Next(1, math.MaxInt); n != 2 {
		t.Errorf("Next of all: %d", n)
	}
	list(t, s, Span{10, 1})
}

func TestP21_3Give(t *testing.T) {
	s, _ := New(10)
	s.Take(10)
	for _, x := range []Span{{0, 0}, {0, -1}, {-1, 2}, {10, 1}, {9, 2}, {0, 11}, {math.MaxInt, 1}, {1, math.MaxInt}, {math.MinInt, math.MinInt}, {math.MaxInt, math.MaxInt}} {
		if e := s.Give(x); e != api.ErrRange {
			t.Errorf("Give(%v): %d", x, e)
		}
	}
	if e := s.Give(Span{3, 2}); e != api.OK {
		t.Errorf("Give: %d", e)
	}
	for _, x := range []Span{{3, 2}, {3, 1}, {4, 1}, {2, 2}, {4, 2}, {0, 10}, {2, 4}} {
		if e := s.Give(x); e != api.ErrTwice {
			t.Errorf("Give(%v): %d", x, e)
		}
	}
	list(t, s, Span{3, 2})
	s.Give(Span{7, 2})
	s.Give(Span{0, 1})
	list(t, s, Span{0, 1}, Span{3, 2}, Span{7, 2})
	s.Give(Span{5, 2})
	list(t, s, Span{0, 1}, Span{3, 6})
	s.Give(Span{9, 1})
	s.Give(Span{2, 1})
	list(t, s, Span{0, 1}, Span{2, 8})
	s.Give(Span{1, 1})
	list(t, s, Span{0, 10})
}

func TestP21_3Resize(t *testing.T) {
	s, _ := New(4)
	s.Take(2)
	for _, size := range []int{-1, api.MaxCap + 1, math.MinInt, math.MaxInt} {
		if e := s.Resize(size); e != api.ErrRange {
			t.Errorf("Resize(%d): %d", size, e)
		}
	}
	for _, size := range []int{0, 1} {
		if e := s.Resize(size); e != api.ErrBusy || s.Size() != 4 {
			t.Errorf("Resize(%d): %d", size, e)
		}
	}
	list(t, s, Span{2, 2})
	s.Resize(4)
	list(t, s, Span{2, 2})
	s.Resize(6)
	list(t, s, Span{2, 4})
	s.Resize(3)
	list(t, s, Span{2, 1})
	s.Resize(2)
	list(t, s)
	s.Resize(5)
	list(t, s, Span{2, 3})
	s.Take(3)
	s.Give(Span{0, 2})
	if e := s.Resize(4); e != api.ErrBusy {
		t.Errorf("Resize below a byte that is not free: %d", e)
	}
	s.Resize(7)
	list(t, s, Span{0, 2}, Span{5, 2})
	if e := s.Resize(api.MaxCap); e != api.OK || s.Size() != api.MaxCap || s.Free() != api.MaxCap-3 {
		t.Errorf("Resize to the most: %d", e)
	}
}

// model says which bytes are free, one by one.
type model []bool

func (m model) list() []Span {
	var list []Span
	for i, free := range m {
		switch {
		case free && i > 0 && m[i-1]:
			list[len(list)-1].Len++
		case free:
			list = append(list, Span{i, 1})
		}
	}
	return list
}

func TestP21_4(t *testing.T) {
	rnd := rand.New(rand.NewSource(21))
	s, _ := New(60)
	m := model(slices.Repeat([]bool{true}, 60))
	set := func(free bool, spans ...Span) {
		for _, x := range spans {
			for i := range x.Len {
				if m[x.At+i] == free {
					t.Fatalf("%v was so already", x)
				}
				m[x.At+i] = free
			}
		}
	}
	for range 5000 {
		n := 1 + rnd.Intn(8)
		switch rnd.Intn(5) {
		case 0:
			if x, e := s.Take(n); e == api.OK {
				set(false, x)
			}
		case 1:
			if l, e := s.Some(n); e == api.OK {
				set(false, l...)
			}
		case 2:
			at := rnd.Intn(60)
			set(false, Span{at, s.Next(at, n)})
		default:
			x := Span{rnd.Intn(60), 1 + rnd.Intn(4)}
			if s.Give(x) == api.OK {
				set(true, x)
			}
		}
		if !slices.Equal(s.List(), m.list()) {
			t.Fatalf("%v, not %v", s.List(), m.list())
		}
	}
	before := s.List()
	l, _ := s.Some(s.Free() / 2)
	x, e := s.Take(1)
	if e == api.OK {
		s.Give(x)
	}
	rnd.Shuffle(len(l), func(i, k int) { l[i], l[k] = l[k], l[i] })
	for _, x := range l {
		s.Give(x)
	}
	list(t, s, before...)
}
