package alpha_test

import (
	"math"
	"slices"
	"testing"

	. "punnet/alpha"
	"punnet/canon"
)

// bases lists the first lengths or distances and the bits of symbols from first to last.
func bases(f func(int) (int, int, bool), first, last int) (list, bits []int) {
	for sym := first; sym <= last; sym++ {
		base, n, ok := f(sym)
		if ok {
			list, bits = append(list, base), append(bits, n)
		}
	}
	return list, bits
}

func TestP10_1(t *testing.T) {
	lens, bits := bases(LengthBase, -1000, 1000)
	if !slices.Equal(lens, []int{3, 4, 5, 6, 7, 8, 9, 10, 11, 13, 15, 17, 19, 23, 27, 31, 35, 43, 51, 59, 67, 83, 99, 115, 131, 163, 195, 227, 258}) {
		t.Errorf("lengths: %v", lens)
	}
	if !slices.Equal(bits, []int{0, 0, 0, 0, 0, 0, 0, 0, 1, 1, 1, 1, 2, 2, 2, 2, 3, 3, 3, 3, 4, 4, 4, 4, 5, 5, 5, 5, 0}) {
		t.Errorf("bits of lengths: %v", bits)
	}
	dists, bits := bases(DistBase, -1000, 1000)
	if !slices.Equal(dists, []int{1, 2, 3, 4, 5, 7, 9, 13, 17, 25, 33, 49, 65, 97, 129, 193, 257, 385, 513, 769, 1025, 1537, 2049, 3073, 4097, 6145, 8193, 12289, 16385, 24577}) {
		t.Errorf("distances: %v", dists)
	}
	if !slices.Equal(bits, []int{0, 0, 0, 0, 1, 1, 2, 2, 3, 3, 4, 4, 5, 5, 6, 6, 7, 7, 8, 8, 9, 9, 10, 10, 11, 11, 12, 12, 13, 13}) {
		t.Errorf("bits of distances: %v", bits)
	}
	for _, sym := range []int{256, 286, -1, math.MinInt, math.MaxInt} {
		if base, n, ok := LengthBase(sym); base != 0 || n != 0 || ok {
			t.Errorf("LengthBase(%d)", sym)
		}
	}
	for _, sym := range []int{-1, 30, 31, math.MinInt, math.MaxInt} {
		if base, n, ok := DistBase(sym); base != 0 || n != 0 || ok {
			t.Errorf("DistBase(%d)", sym)
		}
	}
	if base, _, ok := LengthBase(257); base != 3 || !ok {
		t.Error("LengthBase(257)")
	}
	if base, _, ok := DistBase(0); base != 1 || !ok {
		t.Error("DistBase(0)")
	}
}

func check(t *testing.T, what string, n, last int, p Part, base func(int) (int, int, bool)) {
	t.Helper()
	least, bits, ok := base(p.Sym)
	if !ok || p.Bits != bits || p.Extra != n-least || p.Extra < 0 || n < 258 && p.Extra >= 1<<bits {
		t.Errorf("%s(%d) = %+v", what, n, p)
	}
	if p.Sym < last {
		if next, _, _ := base(p.Sym + 1); next <= n {
			t.Errorf("%s(%d) = %+v is not the greatest symbol", what, n, p)
		}
	}
}

func TestP10_2(t *testing.T) {
	for n := 3; n <= 258; n++ {
		p, ok := Length(n)
		if !ok {
			t.Errorf("Length(%d)", n)
		}
		check(t, "Length", n, 285, p, LengthBase)
	}
	for n := 1; n <= 32768; n++ {
		p, ok := Dist(n)
		if !ok {
			t.Errorf("Dist(%d)", n)
		}
		check(t, "Dist", n, 29, p, DistBase)
	}
	for _, n := range []int{2, 259, 0, -3, math.MinInt, math.MaxInt} {
		if p, ok := Length(n); p != (Part{}) || ok {
			t.Errorf("Length(%d) = %+v", n, p)
		}
	}
	for _, n := range []int{0, 32769, -1, math.MinInt, math.MaxInt} {
		if p, ok := Dist(n); p != (Part{}) || ok {
			t.Errorf("Dist(%d) = %+v", n, p)
		}
	}
	if p, _ := Length(10); p != (Part{Sym: 264}) {
		t.Errorf("%+v", p)
	}
	if p, _ := Length(258); p != (Part{Sym: 285}) {
		t.Errorf("%+v", p)
	}
	if p, _ := Length(257); p != (Part{Sym: 284, Bits: 5, Extra: 30}) {
		t.Errorf("%+v", p)
	}
	if p, _ := Dist(5); p != (Part{Sym: 4, Bits: 1}) {
		t.Errorf("%+v", p)
	}
	if p, _ := Dist(32768); p != (Part{Sym: 29, Bits: 13, Extra: 8191}) {
		t.Errorf("%+v", p)
	}
}

func TestP10_3(t *testing.T) {
	lits := slices.Concat(slices.Repeat([]int{8}, 144), slices.Repeat([]int{9}, 112), slices.Repeat([]int{7}, 24), slices.Repeat([]int{8}, 8))
	if !slices.Equal(FixedLits(), lits) || canon.Kind(FixedLits()) != canon.Complete {
		t.Error("FixedLits")
	}
	if !slices.Equal(FixedDists(), slices.Repeat([]int{5}, 32)) || canon.Kind(FixedDists()) != canon.Complete {
		t.Error("FixedDists")
	}
	clear(FixedLits())
	clear(FixedDists())
	if FixedLits()[0] != 8 || FixedDists()[0] != 5 {
		t.Error("the lengths are not new each time")
	}
	var list []int
	for i := range 19 {
		list = append(list, Order(i))
	}
	if !slices.Equal(list, []int{16, 17, 18, 0, 8, 7, 9, 6, 10, 5, 11, 4, 12, 3, 13, 2, 14, 1, 15}) {
		t.Errorf("Order: %v", list)
	}
	for _, i := range []int{-1, 19, math.MinInt, math.MaxInt} {
		if Order(i) != -1 {
			t.Errorf("Order(%d)", i)
		}
	}
}

func TestP10_4(t *testing.T) {
	for n := 3; n <= 258; n++ {
		p, _ := Length(n)
		if base, _, _ := LengthBase(p.Sym); base+p.Extra != n {
			t.Errorf("length %d", n)
		}
	}
	for n := 1; n <= 32768; n++ {
		p, _ := Dist(n)
		if base, _, _ := DistBase(p.Sym); base+p.Extra != n {
			t.Errorf("distance %d", n)
		}
	}
}
