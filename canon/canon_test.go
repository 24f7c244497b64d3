package canon_test

import (
	"math"
	"math/rand"
	"slices"
	"testing"

	"punnet/api"
	. "punnet/canon"
	"punnet/lengths"
)

func TestP8_1(t *testing.T) {
	cases := []struct {
		lens []int
		want int
	}{
		{nil, None}, {[]int{0}, None}, {[]int{0, 0, 0}, None},
		{[]int{1}, Single}, {[]int{0, 1, 0}, Single},
		{[]int{2}, Lacking}, {[]int{15}, Lacking}, {[]int{1, 2}, Lacking}, {[]int{2, 2}, Lacking}, {[]int{1, 3, 3, 0}, Lacking},
		{[]int{1, 1}, Complete}, {[]int{2, 1, 3, 3}, Complete}, {[]int{0, 2, 2, 0, 1}, Complete},
		{slices.Repeat([]int{15}, 1<<15), Complete}, {slices.Repeat([]int{15}, 1<<15-1), Lacking},
		{slices.Repeat([]int{15}, 1<<15+1), Over},
		{[]int{1, 1, 15}, Over}, {[]int{1, 1, 1}, Over}, {slices.Repeat([]int{1}, 100000), Over},
		{[]int{1, 1, 1, 16}, Wrong}, {[]int{-1}, Wrong}, {[]int{16}, Wrong}, {[]int{1, 1, math.MinInt}, Wrong}, {[]int{math.MaxInt}, Wrong},
	}
	for i, c := range cases {
		if k := Kind(c.lens); k != c.want {
			t.Errorf("case %d: %d", i, k)
		}
	}
}

func TestP8_2Codes(t *testing.T) {
	// With the first bit first they are 10, 0, 110, 111.
	codes, e := Codes([]int{2, 1, 3, 3})
	if !slices.Equal(codes, []uint32{1, 0, 3, 7}) || e != api.OK {
		t.Errorf("%v, %d", codes, e)
	}
	codes, e = Codes([]int{3, 3, 0, 3, 3, 3, 2, 4, 4})
	if !slices.Equal(codes, []uint32{0b010, 0b110, 0, 0b001, 0b101, 0b011, 0b00, 0b0111, 0b1111}) || e != api.OK {
		t.Errorf("%b, %d", codes, e)
	}
	codes, e = Codes([]int{15, 1, 2, 3, 4, 5, 6, 7, 8, 9, 10, 11, 12, 13, 14, 15})
	if codes[0] != 1<<14-1 || codes[15] != 1<<15-1 || codes[14] != 1<<13-1 || codes[1] != 0 || e != api.OK {
		t.Errorf("%b, %d", codes, e)
	}
	for _, lens := range [][]int{nil, {0}, {1}, {0, 0, 5}, {2, 2}} {
		codes, e := Codes(lens)
		if len(codes) != len(lens) || e != api.OK || slices.ContainsFunc(codes[:min(1, len(codes))], func(c uint32) bool { return c != 0 }) {
			t.Errorf("%v: %v, %d", lens, codes, e)
		}
	}
	if codes, e := Codes([]int{1, 16}); codes != nil || e != api.ErrArg {
		t.Errorf("a wrong length: %v, %d", codes, e)
	}
	if codes, e := Codes([]int{1, 1, 1, -1}); codes != nil || e != api.ErrArg {
		t.Errorf("a wrong length beside too many: %v, %d", codes, e)
	}
	if codes, e := Codes([]int{1, 1, 1}); codes != nil || e != api.ErrOver {
		t.Errorf("too many: %v, %d", codes, e)
	}
}

func TestP8_2Sorted(t *testing.T) {
	cases := []struct{ lens, want []int }{
		{nil, nil}, {[]int{0, 0}, nil}, {[]int{2, 1, 3, 3}, []int{1, 0, 2, 3}},
		{[]int{15, 0, 1, 15, 1}, []int{2, 4, 0, 3}}, {[]int{16, 2, -1, 1, math.MaxInt}, []int{3, 1}},
	}
	for _, c := range cases {
		if list := Sorted(c.lens); !slices.Equal(list, c.want) {
			t.Errorf("%v: %v", c.lens, list)
		}
	}
}

func TestP8_3(t *testing.T) {
	rnd := rand.New(rand.NewSource(8))
	for range 100 {
		counts := make([]int, 1+rnd.Intn(60))
		for i := range counts {
			counts[i] = rnd.Intn(1 << rnd.Intn(14))
		}
		lens, _ := lengths.Make(counts, 6+rnd.Intn(10))
		if rnd.Intn(2) == 0 {
			lens[rnd.Intn(len(lens))] = 0
		}
		codes, e := Codes(lens)
		if e != api.OK {
			t.Fatal(e)
		}
		for i, n := range lens {
			for k, m := range lens {
				if i != k && n > 0 && m >= n && codes[k]&(1<<n-1) == codes[i] {
					t.Fatalf("%v: the code of %d is a prefix of that of %d", lens, i, k)
				}
			}
			if codes[i]>>n != 0 {
				t.Fatalf("%v: the code of %d has more bits", lens, i)
			}
		}
	}
}
