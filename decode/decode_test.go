package decode_test

import (
	"math"
	"math/rand"
	"testing"

	"punnet/api"
	"punnet/bitin"
	"punnet/bitout"
	"punnet/canon"
	. "punnet/decode"
	"punnet/lengths"
)

func TestP9_1(t *testing.T) {
	cases := []struct {
		lens  []int
		which int
		want  api.Errno
	}{
		{[]int{1, 1}, Whole, api.OK}, {[]int{1, 1}, One, api.OK}, {[]int{1, 1}, Any, api.OK}, {[]int{1, 1}, -5, api.OK},
		{[]int{1, 16}, Any, api.ErrLens}, {[]int{-1}, Any, api.ErrLens}, {[]int{1, 1, 1, 16}, Any, api.ErrLens},
		{[]int{1, 1, 1}, Any, api.ErrOver}, {[]int{2, 1, 1}, Whole, api.ErrOver},
		{[]int{0, 1}, Whole, api.ErrLack}, {[]int{0, 1}, One, api.OK}, {[]int{0, 1}, Any, api.OK}, {[]int{1}, math.MaxInt, api.OK}, {[]int{1}, math.MinInt, api.ErrLack},
		{nil, Whole, api.ErrLack}, {nil, One, api.ErrLack}, {nil, Any, api.OK}, {[]int{0, 0}, Any, api.OK}, {[]int{0}, One, api.ErrLack}, {[]int{0}, 9, api.OK},
		{[]int{2}, Any, api.ErrLack}, {[]int{1, 2}, Any, api.ErrLack}, {[]int{2, 2, 2}, One, api.ErrLack},
	}
	for i, c := range cases {
		if e := May(c.lens, c.which); e != c.want {
			t.Errorf("case %d: %d", i, e)
		}
		table, e := New(c.lens, c.which)
		if e != c.want || (table != nil) != (e == api.OK) {
			t.Errorf("case %d: New: %v, %d", i, table, e)
		}
	}
	sizes := []struct {
		lens      []int
		most, len int
	}{{[]int{0, 0}, 0, 0}, {[]int{0, 1}, 1, 1}, {[]int{2, 1, 3, 3, 0}, 3, 4}}
	for _, c := range sizes {
		table, _ := New(c.lens, Any)
		if table.Most() != c.most || table.Len() != c.len {
			t.Errorf("%v: %d, %d", c.lens, table.Most(), table.Len())
		}
	}
}

func TestP9_2Example(t *testing.T) {
	lens := []int{1, 2, 2}
	table, _ := New(lens, Whole)
	lens[0] = 2
	r := bitin.New()
	r.Feed([]byte{6})
	for i, want := range []int{0, 2, 0, 0, 0, 0, 0} {
		if sym, e := table.Next(r); i < 2 && (sym != want || e != api.OK) {
			t.Errorf("symbol %d: %d, %d", i, sym, e)
		}
	}
}

// next reads a symbol of the n lowest bits of v, after taking those above.
func next(table *Table, v byte, n int) (int, api.Errno, int) {
	r := bitin.New()
	r.Feed([]byte{v << (8 - n)})
	r.Skip(8 - n)
	sym, e := table.Next(r)
	return sym, e, n - r.Left()
}

func TestP9_2Errors(t *testing.T) {
	lens := []int{2, 1, 3, 3}
	table, _ := New(lens, Whole)
	codes, _ := canon.Codes(lens)
	for v := range 16 {
		for n := 0; n <= 4; n++ {
			want, code, took := 0, api.ErrShort, 0
			for sym, k := range lens {
				if k <= n && uint32(v)&(1<<k-1) == codes[sym] {
					want, code, took = sym, api.OK, k
				}
			}
			if sym, e, taken := next(table, byte(v), n); sym != want || e != code || taken != took {
				t.Errorf("bits %04b, %d: %d, %d, %d", v, n, sym, e, taken)
			}
		}
	}
	single, _ := New([]int{0, 0, 1}, One)
	none, _ := New([]int{0, 0, 0}, Any)
	cases := []struct {
		table *Table
		v     byte
		n     int
		sym   int
		e     api.Errno
		taken int
	}{
		{single, 0, 0, 0, api.ErrShort, 0}, {single, 0, 1, 2, api.OK, 1}, {single, 1, 1, 0, api.ErrCode, 0},
		{single, 2, 2, 2, api.OK, 1}, {single, 3, 4, 0, api.ErrCode, 0},
		{none, 0, 0, 0, api.ErrCode, 0}, {none, 1, 3, 0, api.ErrCode, 0},
	}
	for i, c := range cases {
		if sym, e, taken := next(c.table, c.v, c.n); sym != c.sym || e != c.e || taken != c.taken {
			t.Errorf("case %d: %d, %d, %d", i, sym, e, taken)
		}
	}
}

func TestP9_3(t *testing.T) {
	rnd := rand.New(rand.NewSource(9))
	for range 100 {
		counts := make([]int, 2+rnd.Intn(286))
		for i := range counts {
			counts[i] = 1 + rnd.Intn(1<<rnd.Intn(30))
		}
		lens, _ := lengths.Make(counts, 9+rnd.Intn(7))
		codes, _ := canon.Codes(lens)
		table, e := New(lens, Whole)
		if e != api.OK {
			t.Fatal(e)
		}
		w, r := bitout.New(), bitin.New()
		var list []int
		for range 500 {
			sym := rnd.Intn(len(lens))
			w.Put(codes[sym], lens[sym])
			list = append(list, sym)
		}
		r.Feed(w.Finish())
		for i, want := range list {
			if sym, e := table.Next(r); sym != want || e != api.OK {
				t.Fatalf("symbol %d: %d, %d", i, sym, e)
			}
		}
	}
}
